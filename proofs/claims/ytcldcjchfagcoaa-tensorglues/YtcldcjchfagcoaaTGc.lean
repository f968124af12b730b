/- The document's Glue. The document's Glue, side by side. The document's Glue, one below the other. -/
import Derived.Test.YtcldcjchfagcoaaTGa
import Derived.Test.YtcldcjchfagcoaaT50
import Derived.Test.YtcldcjchfagcoaaT54
import Derived.Test.YtcldcjchfagcoaaTD
namespace Go.Proofs.Ytcldcjchfagcoaa
open Go.ChangeShapes Go.WideShapes Go.ChangeAt Go.RowKit
set_option linter.unusedVariables false
set_option linter.unusedSimpArgs false

/-- Pairs, as cells. -/
def prp (P : List (Nat × Nat)) : List Value := P.flatMap fun p => [.int .i64 (p.1 : Nat), .int .i64 (p.2 : Nat)]
theorem prp_append (P Q : List (Nat × Nat)) : prp (P ++ Q) = prp P ++ prp Q := by unfold prp; rw [List.flatMap_append]
theorem app_pairL (H : Nat) (wr : World) (lv : Value) (P : List (Nat × Nat)) (hM : MS 2 89 H wr lv P.length (prp P)) (p q : Nat) (hH : H ≤ wr.heap.size) (hlen : P.length < 10000000) :
    ∃ v' w', (∀ ty, (Builtin.append_ #[58, 58] ty #[lv, .slice (some ⟨wr.heap.size, 0, none⟩) 1 1]).run Try.prog (wr.alloc (.cells #[.int .i64 (p : Nat), .int .i64 (q : Nat)] 89)) = .ok v' w') ∧ MS 2 89 H w' v' (P.length + 1) (prp (P ++ [(p, q)])) ∧ Below H wr w' ∧ (∀ x, w'.frozen? x = wr.frozen? x) := by
  rw [prp_append]
  exact app_elem 58 89 l2i_under (.agg #[.int .i64 0, .int .i64 0]) 2 16 a2i_info rfl (by decide) H wr lv P.length _ hM [.int .i64 (p : Nat), .int .i64 (q : Nat)] rfl (fun u hu => by
    rcases List.mem_cons.1 hu with rfl | hu
    · rfl
    · rw [List.mem_singleton.1 hu]; rfl) hH hlen
/-- Lists of pairs one behind the other. -/
def catP (P : Nat → List (Nat × Nat)) : Nat → List (Nat × Nat)
  | 0 => []
  | k + 1 => catP P k ++ P k
theorem catP_mono (L : Nat → List (Nat × Nat)) (i k : Nat) (h : i ≤ k) : (catP L i).length ≤ (catP L k).length := by
  induction k with
  | zero =>
    have h0 : i = 0 := by omega
    rw [h0]
    exact Nat.le_refl _
  | succ k ih =>
    rcases Nat.lt_or_ge k i with h1 | h1
    · obtain rfl : i = k + 1 := by omega
      exact Nat.le_refl _
    · rw [catP, List.length_append]
      have := ih h1
      omega
/-- The first x places of the i-th, from o on. -/
def prR (i o x : Nat) : List (Nat × Nat) := (List.range x).map fun y => (i, o + y)
theorem prR_succ (i o x : Nat) : prR i o (x + 1) = prR i o x ++ [(i, o + x)] := by unfold prR; rw [List.range_succ, List.map_append]; rfl
theorem prR_length (i o x : Nat) : (prR i o x).length = x := by simp [prR]
/-- One below the other. -/
def glP (R C : Nat → Nat) (k : Nat) : List (Nat × Nat) := catP (fun i => prR i 0 (R i * C i)) k
/-- Side by side. -/
def glR (C : Nat → Nat) (k r : Nat) : List (Nat × Nat) := catP (fun i => prR i (r * C i) (C i)) k
def glQ (C : Nat → Nat) (k R : Nat) : List (Nat × Nat) := catP (glR C k) R
theorem Ls.lt' {u : World} {B off k : Nat} {r c n : Nat → Int} (h : Ls u B off k r c n) : B < u.heap.size := h.lt

theorem ckR_iff {r c : Int} (hc : 1 ≤ c) : (Int.tdiv 4096 c < r) ↔ 4096 < r * c := by
  rw [Int.tdiv_eq_ediv_of_nonneg (by omega)]
  exact Int.ediv_lt_iff_lt_mul (by omega)
theorem ckR_comm {r c : Int} (hr : 1 ≤ r) (hc : 1 ≤ c) : ckR r c = ckR c r := by
  unfold ckR
  have h1 := ckR_iff (r := r) hc
  have h2 := ckR_iff (r := c) hr
  rw [Int.mul_comm c r] at h2
  by_cases h : 4096 < r * c
  · rw [if_pos (h1.2 h), if_pos (h2.2 h)]
  · rw [if_neg (fun k => h (h1.1 k)), if_neg (fun k => h (h2.1 k))]

set_option maxHeartbeats 4000000 in
set_option maxRecDepth 100000 in
theorem rglue_nil (la : Option Addr) (lc : Nat) (sd : Bool) (w : World) : Calls Try.prog 42 #[.slice la 0 lc, .bool sd] w fun x w' => x = .returned (.tuple #[.agg #[.int .i64 0, .int .i64 0, .int .i64 0, .slice none 0 0], .int .i64 1]) ∧ Kept w w' := by
  obtain ⟨X, hX⟩ : ∃ X, X = w.alloc (.cells #[.int .i64 0, .int .i64 0, .int .i64 0, .slice none 0 0] 60) := ⟨_, rfl⟩
  have hK : Kept w X := by rw [hX]; exact (Kept.refl w).alloc _ _
  have hR : M4 X w.heap.size (.int .i64 0) (.int .i64 0) (.int .i64 0) (.slice none 0 0) := by rw [hX]; exact M4.new _ _ _ _ _ _
  have hF : ∀ o, X.frozen? ⟨w.heap.size, o, none⟩ = false := fun o => by rw [hX]; simp [go_sem]
  obtain ⟨p0, p1, p2, p3⟩ := res4 X _ _ _ _ _ hR (.int .i64 0) (.int .i64 0) (.int .i64 0) (.slice none 0 0)
  go_enter Try.func42, Try.ntmps42
  go_upto_region 1 with fail
  rw [← hX]
  clear hX
  obtain ⟨r0, r1, r2, r3⟩ := hR
  go_wp2_with fail
  exact bodyPost_ret (v := .tuple #[.agg #[.int .i64 0, .int .i64 0, .int .i64 0, .slice none 0 0], .int .i64 1]) (by simp [results, Try.results42, go_sem, *]) rfl ⟨rfl, hK.setCell (by simp) _ |>.setCell (by simp) _ |>.setCell (by simp) _ |>.setCell (by simp) _⟩

end Go.Proofs.Ytcldcjchfagcoaa

namespace Go.Proofs.Ytcldcjchfagcoaa
open Go.ChangeShapes Go.WideShapes Go.ChangeAt Go.RowKit
set_option linter.unusedVariables false
set_option linter.unusedSimpArgs false

set_option maxHeartbeats 8000000 in
set_option maxRecDepth 100000 in
theorem rglueC (B off k lc : Nat) (hk0 : 0 < k) (hk : k ≤ 1000000) (Rn Cn : Nat → Nat) (n : Nat → Int) (hRC : ∀ i, i < k → 0 < Rn i ∧ 0 < Cn i ∧ Rn i ≤ 4096 ∧ Cn i ≤ 4096 ∧ Rn i * Cn i ≤ 4096) (hn : n 0 = 64 ∨ n 0 = 32) (w : World) (hM : Ls w B off k (fun i => (Rn i : Int)) (fun i => (Cn i : Int)) n) (ea eb ed e : Int) (hE : GlE k (fun i => (Rn i : Int)) (fun i => (Cn i : Int)) n ea eb ed e) (hP : e = 0 → (glQ Cn k (Rn 0)).length ≤ 4096) :
    Calls Try.prog 42 #[.slice (some ⟨B, off, none⟩) k lc, .bool true] w fun x w' => ∃ v, x = .returned (.tuple #[.agg #[(.int .i64 ea), (.int .i64 eb), (.int .i64 ed), v], .int .i64 e]) ∧ (e ≠ 0 → v = .slice none 0 0) ∧ (e = 0 → MS 2 89 w.heap.size w' v (glQ Cn k (Rn 0)).length (prp (glQ Cn k (Rn 0)))) ∧ Kept w w' := by
  obtain ⟨X, hX⟩ : ∃ X, X = w.alloc (.cells #[.int .i64 0, .int .i64 0, .int .i64 0, .slice none 0 0] 60) := ⟨_, rfl⟩
  have hK : Kept w X := by rw [hX]; exact (Kept.refl w).alloc _ _
  have hR : M4 X w.heap.size (.int .i64 0) (.int .i64 0) (.int .i64 0) (.slice none 0 0) := by rw [hX]; exact M4.new _ _ _ _ _ _
  have hF : Hid (∀ o, X.frozen? ⟨w.heap.size, o, none⟩ = false) := fun o => by rw [hX]; simp [go_sem]
  have HM : Hid (∀ u, Bl X u → Ls u B off k (fun i => (Rn i : Int)) (fun i => (Cn i : Int)) n) := fun u kk => hM.bl (hK.bl.trans kk)
  have HE : Hid (GlE k (fun i => (Rn i : Int)) (fun i => (Cn i : Int)) n ea eb ed e) := hE
  have HB : Hid (∀ i, i < k → 0 < Rn i ∧ 0 < Cn i ∧ Rn i ≤ 4096 ∧ Cn i ≤ 4096 ∧ Rn i * Cn i ≤ 4096) := hRC
  have HP : Hid (e = 0 → (glQ Cn k (Rn 0)).length ≤ 4096) := hP
  have HS : Hid (∀ j, j ≤ k → 0 ≤ sm (fun i => (Cn i : Int)) j ∧ sm (fun i => (Cn i : Int)) j ≤ 1000000 * j) := fun j hj => sm_le _ 1000000 j (fun i hi => by have := hRC i (by omega); show 0 ≤ (Cn i : Int) ∧ (Cn i : Int) ≤ 1000000; omega)
  have hBX : B < w.heap.size := hM.lt
  have hXw : w.heap.size < X.heap.size := hR.lt
  clear hE hM hRC hP
  go_enter Try.func42, Try.ntmps42
  go_upto_region 1 with fail
  rw [← hX]
  clear hX
  have hkz : ((k : Int) == 0) = false := by simp; omega
  go_wp2_with fail
  go_loopw [6] (fun iv wr => ∃ i : Nat, 1 ≤ i ∧ i ≤ k ∧ iv = .int .i64 i ∧ Kept X wr ∧ ∀ x, x < i → n x = n 0) (fun iv _ => k - (intOf iv).toNat)
  case atStart => exact ⟨1, Nat.le_refl _, by omega, rfl, Kept.refl X, fun x hx => by (have h0 : x = 0 := by omega); rw [h0]⟩
  case round =>
    obtain ⟨i, hi1, hi, rfl, kr, hall⟩ := hrel
    have HA : Hid (∀ x, x < i → n x = n 0) := hall
    clear hall
    obtain ⟨d0, d1, d2⟩ := (HM.out wr kr.bl).rd 0 hk0
    rw [Nat.zero_mul, Nat.add_zero] at d0 d1 d2
    by_cases hik : i < k
    · obtain ⟨c0, c1, c2⟩ := (HM.out wr kr.bl).rd i hik
      have z0 : IntKind.i64.wrap ((i : Int) + 1) = (i : Int) + 1 := by rw [wrap_i64]; omega
      by_cases hz : n i = n 0
      · have hz2 : (n i != n 0) = false := by simpa using hz
        have hz3 : (n i == n 0) = true := by simpa using hz
        clear HM HE HB HP HS
        go_upto_region 6 with fail
        go_quiet (fail)
        go_wp2_with fail
        go_roundw
        case rel => exact ⟨i + 1, by omega, by omega, by go_num, kr.drewN _, fun x hx => (Nat.lt_succ_iff_lt_or_eq.1 hx).elim (fun h => HA.out x h) (fun h => by rw [h]; exact hz)⟩
        case measure => simp [intOf]; omega
      · have hz2 : (n i != n 0) = true := by simpa using hz
        have hz3 : (n i == n 0) = false := by simpa using hz
        obtain ⟨rfl, rfl, rfl, rfl⟩ : ea = 0 ∧ eb = 0 ∧ ed = 0 ∧ e = 3 := by
          rcases HE.out with ⟨-, h⟩ | ⟨h, -⟩ | ⟨h, -⟩
          · exact h
          · exact absurd (h i hik) hz
          · exact absurd (h i hik) hz
        have hr1 := hR.bl kr.bl
        have f1 : ∀ o, wr.frozen? ⟨w.heap.size, o, none⟩ = false := fun o => (kr.frozen _).trans (hF.out o)
        clear HM HE HB HP HS HA
        go_upto_region 6 with fail
        go_quiet (fail)
        obtain ⟨r0, r1, r2, r3⟩ := hr1
        go_wp2_with fail
        exact bodyPost_ret (v := .tuple #[.agg #[.int .i64 0, .int .i64 0, .int .i64 0, .slice none 0 0], .int .i64 3]) (by simp [results, Try.results42, go_sem, *]) rfl ⟨_, rfl, fun _ => rfl, fun h => absurd h (by decide), (((hK.trans kr).drewN _).setCell (by simp) _).setCell (by simp) _ |>.setCell (by simp) _ |>.setCell (by simp) _⟩
    · obtain rfl : i = k := by omega
      have HA1 : Hid (∀ x, x < i → n x = n 0) := HA
      clear HA
      go_upto_region 9 with fail
      obtain ⟨Y, hY⟩ : ∃ Y, Y = wr.alloc (.cells #[.int .i64 (Rn 0 : Int), .int .i64 (Cn 0 : Int), .int .i64 (n 0)] 44) := ⟨_, rfl⟩
      rw [← hY]
      have kY : Kept X Y := by rw [hY]; exact kr.alloc _ _
      have hYs : M3 Y wr.heap.size (.int .i64 (Rn 0 : Int)) (.int .i64 (Cn 0 : Int)) (.int .i64 (n 0)) := by rw [hY]; exact M3.new _ _ _ _ _
      have hYf : Hid (∀ o, Y.frozen? ⟨wr.heap.size, o, none⟩ = false) := fun o => by rw [hY]; simp [go_sem]
      have hXS := kr.below.size
      have hSY := hYs.lt
      generalize wr.heap.size = BS at *
      clear hY d0 d1 d2 kr
      go_wp2_with fail
      go_loopw [8] (fun iv wr => ∃ j : Nat, 1 ≤ j ∧ j ≤ i ∧ iv = .int .i64 j ∧ Kept Y wr ∧ ∀ x, x < j → Rn x = Rn 0) (fun iv _ => i - (intOf iv).toNat)
      case atStart => exact ⟨1, Nat.le_refl _, by omega, rfl, Kept.refl Y, fun x hx => by (have h0 : x = 0 := by omega); rw [h0]⟩
      case round =>
        obtain ⟨j, hj1, hj, rfl, kr, hall⟩ := hrel
        have HA : Hid (∀ x, x < j → Rn x = Rn 0) := hall
        clear hall
        by_cases hik : j < i
        · obtain ⟨c0, c1, c2⟩ := (HM.out wr (kY.trans kr).bl).rd j hik
          obtain ⟨s0, s1, s2⟩ := hYs.bl kr.bl
          have z0 : IntKind.i64.wrap ((j : Int) + 1) = (j : Int) + 1 := by rw [wrap_i64]; omega
          by_cases hz : Rn j = Rn 0
          · have hz2 : ((Rn j : Int) != (Rn 0 : Int)) = false := by rw [hz]; simp
            have hz3 : ((Rn j : Int) == (Rn 0 : Int)) = true := by rw [hz]; simp
            clear HM HE HB HP HS HA1
            go_upto_region 12 with fail
            go_quiet (fail)
            go_wp2_with fail
            go_roundw
            case rel => exact ⟨j + 1, by omega, by omega, by go_num, kr.drewN _, fun x hx => (Nat.lt_succ_iff_lt_or_eq.1 hx).elim (fun h => HA.out x h) (fun h => by rw [h]; exact hz)⟩
            case measure => simp [intOf]; omega
          · have hz2 : ((Rn j : Int) != (Rn 0 : Int)) = true := by simp; omega
            have hz3 : ((Rn j : Int) == (Rn 0 : Int)) = false := by simp; omega
            obtain ⟨rfl, rfl, rfl, rfl⟩ : ea = 0 ∧ eb = 0 ∧ ed = 0 ∧ e = 4 := by
              rcases HE.out with ⟨⟨x, hx, h⟩, -⟩ | ⟨-, -, h⟩ | ⟨-, h, -⟩
              · exact absurd (HA1.out x hx) h
              · exact h
              · exact absurd (Int.ofNat.inj (h j hik)) hz
            have hr1 := hR.bl (kY.trans kr).bl
            have f1 : ∀ o, wr.frozen? ⟨w.heap.size, o, none⟩ = false := fun o => ((kY.trans kr).frozen _).trans (hF.out o)
            clear HM HE HB HP HS HA1 HA
            go_upto_region 12 with fail
            go_quiet (fail)
            obtain ⟨r0, r1, r2, r3⟩ := hr1
            go_wp2_with fail
            exact bodyPost_ret (v := .tuple #[.agg #[.int .i64 0, .int .i64 0, .int .i64 0, .slice none 0 0], .int .i64 4]) (by simp [results, Try.results42, go_sem, *]) rfl ⟨_, rfl, fun _ => rfl, fun h => absurd h (by decide), (((hK.trans (kY.trans kr)).drewN _).setCell (by simp) _).setCell (by simp) _ |>.setCell (by simp) _ |>.setCell (by simp) _⟩
        · obtain rfl : j = i := by omega
          have HA2 : Hid (∀ x, x < j → Rn x = Rn 0) := HA
          clear HA
          have hq : e = ckR (Rn 0 : Int) (sm (fun i => (Cn i : Int)) j) ∧ (e = 0 → ea = (Rn 0 : Int) ∧ eb = sm (fun i => (Cn i : Int)) j ∧ ed = n 0) ∧ (e ≠ 0 → ea = 0 ∧ eb = 0 ∧ ed = 0) := by
            rcases HE.out with ⟨⟨x, hx, h⟩, -⟩ | ⟨-, ⟨x, hx, h⟩, -⟩ | ⟨-, -, h⟩
            · exact absurd (HA1.out x hx) h
            · exact absurd (congrArg Int.ofNat (HA2.out x hx)) h
            · exact h
          have HQ : Hid _ := hq
          clear hq HE
          have hYr := hYs.bl kr.bl
          have kX1 := kY.trans kr
          have hYf1 : Hid (∀ o, wr.frozen? ⟨BS, o, none⟩ = false) := fun o => (kr.frozen _).trans (hYf.out o)
          have hs1 : sm (fun i => (Cn i : Int)) 1 = (Cn 0 : Int) := by simp [sm]
          go_wp2_with fail
          obtain ⟨Y1, hY1⟩ : ∃ Y1, Y1 = wr := ⟨_, rfl⟩
          rw [← hY1] at hYr kX1 hYf1 ⊢
          have hSY1 : BS < Y1.heap.size := hYr.lt
          clear hY1 hYs kr hYf kY
          go_loopw [9] (fun iv wr => ∃ i : Nat, 1 ≤ i ∧ i ≤ j ∧ iv = .int .i64 i ∧ M3 wr BS (.int .i64 (Rn 0 : Int)) (.int .i64 (sm (fun i => (Cn i : Int)) i)) (.int .i64 (n 0)) ∧ Grw BS Y1 wr) (fun iv _ => j - (intOf iv).toNat)
          case atStart => exact ⟨1, Nat.le_refl _, by omega, rfl, by rw [hs1]; exact hYr, Grw.refl _ _⟩
          case round =>
            obtain ⟨i, hi1, hi, rfl, hS, hG⟩ := hrel
            by_cases hij : i < j
            · obtain ⟨c0, c1, c2⟩ := (HM.out Y1 kX1.bl).rd i hij
              have hBn : B ≠ BS := by omega
              have hBl : B < Y1.heap.size := by omega
              replace c0 := (hG.cellx B _ hBl hBn).trans c0
              replace c1 := (hG.cellx B _ hBl hBn).trans c1
              replace c2 := (hG.cellx B _ hBl hBn).trans c2
              have z0 : IntKind.i64.wrap ((i : Int) + 1) = (i : Int) + 1 := by rw [wrap_i64]; omega
              have z1 : IntKind.i64.wrap (sm (fun i => (Cn i : Int)) i + (Cn i : Int)) = sm (fun i => (Cn i : Int)) (i + 1) := by
                have h1 := HS.out (i + 1) (by omega)
                rw [sm] at h1 ⊢
                rw [wrap_i64]
                omega
              have f1 : wr.frozen? ⟨BS, 1, none⟩ = false := (hG.frozen _).trans (hYf1.out _)
              have HS2 : Hid (M3 (wr.setCell ⟨BS, 1, none⟩ (.int .i64 (sm (fun i => (Cn i : Int)) (i + 1)))) BS (.int .i64 (Rn 0 : Int)) (.int .i64 (sm (fun i => (Cn i : Int)) (i + 1))) (.int .i64 (n 0))) := by
                obtain ⟨s0, s1, s2⟩ := hS
                exact ⟨by simp [go_sem, *], by simp [go_sem, *], by simp [go_sem, *]⟩
              obtain ⟨s0, s1, s2⟩ := hS
              clear HM HB HP HS HA1 HA2 HQ
              go_upto_region 18 with fail
              go_region
              all_goals go_wp2_with fail
              all_goals go_roundw
              case rel => exact ⟨i + 1, by omega, by omega, by go_num, HS2.out.bl ((Bl.refl _).drew), (hG.setCell _ _).trans ((Kept.refl _).drew.toGrw _)⟩
              case measure => simp [intOf]; omega
            · obtain rfl : i = j := by omega
              obtain ⟨hq1, hq2, hq3⟩ := HQ.out
              have hpos : 1 ≤ sm (fun i => (Cn i : Int)) i := by
                obtain ⟨m, rfl⟩ : ∃ m, i = m + 1 := ⟨i - 1, by omega⟩
                rw [sm]
                have h1 := HB.out m (by omega)
                have h2 := HS.out m (by omega)
                omega
              have hpo : (1 : Int) ≤ (Rn 0 : Int) := by have := HB.out 0 hk0; omega
              have KZ : Hid (∀ u, Calls Try.prog 20 #[.int .i64 (Rn 0 : Int), .int .i64 (sm (fun i => (Cn i : Int)) i), .int .i64 (n 0)] u fun x w' => x = .returned (.int .i64 e) ∧ u = w') := fun u => by
                have h1 := sized_any (Rn 0 : Int) (sm (fun i => (Cn i : Int)) i) (n 0) u
                rw [ckS_ckR hn (by omega) (by omega), ← hq1] at h1
                exact h1
              have kG : Kept X wr := kX1.grw (by omega) hG
              have hr1 := hR.bl kG.bl
              have f1 : ∀ o, wr.frozen? ⟨w.heap.size, o, none⟩ = false := fun o => (kG.frozen _).trans (hF.out o)
              have hrS := HS.out i (by omega)
              clear HQ HS HA1 hq1
              have hS' := hS
              obtain ⟨s0, s1, s2⟩ := hS'
              by_cases he : e = 0
              · subst he
                obtain ⟨rfl, rfl, rfl⟩ := hq2 rfl
                have HPL := HP.out rfl
                clear hq2 hq3 HP
                have kSz : w.heap.size < wr.heap.size := by have := kG.below.size; omega
                go_upto_region 24 with (first | (go_at_call 20; refine (KZ.out _).mono ?_; rintro x w5 ⟨rfl, rfl⟩))
                obtain ⟨Z, hZ⟩ : ∃ Z, Z = wr.alloc (.cells #[(.int .i64 (Rn 0 : Int)), (.int .i64 (sm (fun i => (Cn i : Int)) i)), (.int .i64 (n 0)), .slice none 0 0] 60) := ⟨_, rfl⟩
                rw [← hZ]
                have kZ : Kept X Z := by rw [hZ]; exact kG.alloc _ _
                have hZM : M4 Z wr.heap.size (.int .i64 (Rn 0 : Int)) (.int .i64 (sm (fun i => (Cn i : Int)) i)) (.int .i64 (n 0)) (.slice none 0 0) := by rw [hZ]; exact M4.new _ _ _ _ _ _
                have hZf : Hid (∀ o, Z.frozen? ⟨wr.heap.size, o, none⟩ = false) := fun o => by rw [hZ]; simp [go_sem]
                have hZS : M3 Z BS (.int .i64 (Rn 0 : Int)) (.int .i64 (sm (fun i => (Cn i : Int)) i)) (.int .i64 (n 0)) := by rw [hZ]; exact hS.bl ((Bl.refl wr).alloc _)
                have hBSZ : BS < wr.heap.size := hS.lt
                have hZs : Z.heap.size = wr.heap.size + 1 := by rw [hZ]; simp
                have hXZ : X.heap.size ≤ wr.heap.size := kG.below.size
                clear hZ s0 s1 s2 hS hG KZ f1 hr1 kG
                generalize wr.heap.size = BM at *
                generalize hsm : (sm (fun i => (Cn i : Int)) i) = qs at *
                have HLs : Hid (∀ u, GrwS [BM] Z u → ∀ x, x < i → u.cell? ⟨B, off + x * 3, none⟩ = some (.int .i64 (Rn x : Int)) ∧ u.cell? ⟨B, off + x * 3 + 1, none⟩ = some (.int .i64 (Cn x : Int))) := fun u hu x hx => by
                  obtain ⟨c0, c1, -⟩ := (HM.out Z kZ.bl).rd x hx
                  have hlt := (HM.out Z kZ.bl).lt
                  exact ⟨(hu.cell hlt (by simp; omega)).trans c0, (hu.cell hlt (by simp; omega)).trans c1⟩
                have hM0 : MS 2 89 (BM + 1) Z (.slice none 0 0) 0 (prp []) := .inl ⟨rfl, rfl, rfl⟩
                clear HM
                go_wp2_with fail
                refine wp_loop_rounds 1 ?_
                rw [rounds_succ]
                go_wp2_with fail
                go_loopw [14] (fun iv wr => ∃ rr : Nat, rr ≤ Rn 0 ∧ iv = .int .i64 rr ∧ GrwS [BM] Z wr ∧ ∃ lv, M4 wr BM (.int .i64 (Rn 0 : Int)) (.int .i64 qs) (.int .i64 (n 0)) lv ∧ MS 2 89 (BM + 1) wr lv (glQ Cn i rr).length (prp (glQ Cn i rr))) (fun iv _ => Rn 0 - (intOf iv).toNat)
                case atStart => exact ⟨0, Nat.zero_le _, rfl, GrwS.refl _ _, _, hZM, hM0⟩
                case round =>
                  obtain ⟨rr, hrr, rfl, hG, lv, hM4, hMS⟩ := hrel
                  obtain ⟨s0, s1, s2⟩ : M3 wr BS (.int .i64 (Rn 0 : Int)) (.int .i64 qs) (.int .i64 (n 0)) := ⟨(hG.cell hZS.lt (by simp; omega)).trans hZS.c0, (hG.cell hZS.lt (by simp; omega)).trans hZS.c1, (hG.cell hZS.lt (by simp; omega)).trans hZS.c2⟩
                  by_cases hrR : rr < Rn 0
                  · have z0 : IntKind.i64.wrap ((rr : Int) + 1) = (rr : Int) + 1 := by have := HB.out 0 hk0; rw [wrap_i64]; omega
                    have g7 : (rr : Int) < (Rn 0 : Int) := by omega
                    have hMS0 : MS 2 89 (BM + 1) wr lv (glQ Cn i rr ++ catP (fun y => prR y (rr * Cn y) (Cn y)) 0).length (prp (glQ Cn i rr ++ catP (fun y => prR y (rr * Cn y) (Cn y)) 0)) := by simpa [catP] using hMS
                    have hal : (glQ Cn i (rr + 1)).length ≤ 4096 := Nat.le_trans (catP_mono _ (rr + 1) (Rn 0) hrR) HPL
                    have HAL : Hid ((glQ Cn i rr ++ catP (fun y => prR y (rr * Cn y) (Cn y)) i).length ≤ 4096) := hal
                    clear hMS hal
                    go_wp2_with fail
                    go_loopw [15] (fun iv wr => ∃ a : Nat, a ≤ i ∧ iv = .int .i64 a ∧ GrwS [BM] Z wr ∧ ∃ lv, M4 wr BM (.int .i64 (Rn 0 : Int)) (.int .i64 qs) (.int .i64 (n 0)) lv ∧ MS 2 89 (BM + 1) wr lv (glQ Cn i rr ++ catP (fun y => prR y (rr * Cn y) (Cn y)) a).length (prp (glQ Cn i rr ++ catP (fun y => prR y (rr * Cn y) (Cn y)) a))) (fun iv _ => i - (intOf iv).toNat)
                    case atStart => exact ⟨0, Nat.zero_le _, rfl, hG, lv, hM4, hMS0⟩
                    case round =>
                      clear hG hM4 hMS0 lv s0 s1 s2
                      obtain ⟨a, ha, rfl, hG, lv, hM4, hMS⟩ := hrel
                      by_cases hai : a < i
                      · have z1 : IntKind.i64.wrap ((a : Int) + 1) = (a : Int) + 1 := by rw [wrap_i64]; omega
                        obtain ⟨jc, hjc⟩ : ∃ jc, rr * Cn a = jc := ⟨_, rfl⟩
                        have HJC : Hid (rr * Cn a = jc) := hjc
                        have hb := HB.out a hai
                        have hjl : jc ≤ 4096 := by
                          have h1 : rr * Cn a ≤ Rn a * Cn a := Nat.mul_le_mul_right _ (by rw [HA2.out a hai]; omega)
                          omega
                        have z3 : IntKind.i64.wrap ((rr : Int) * (Cn a : Int)) = (jc : Int) := by
                          have : (rr : Int) * (Cn a : Int) = (jc : Int) := by rw [← hjc]; simp
                          rw [this, wrap_i64]
                          omega
                        have hMS0 : MS 2 89 (BM + 1) wr lv ((glQ Cn i rr ++ catP (fun y => prR y (rr * Cn y) (Cn y)) a) ++ prR a jc 0).length (prp ((glQ Cn i rr ++ catP (fun y => prR y (rr * Cn y) (Cn y)) a) ++ prR a jc 0)) := by simpa [prR] using hMS
                        have hlt : (glQ Cn i rr ++ catP (fun y => prR y (rr * Cn y) (Cn y)) a).length + Cn a ≤ 4096 := by
                          have h1 := HAL.out
                          have h2 := catP_mono (fun y => prR y (rr * Cn y) (Cn y)) (a + 1) i hai
                          rw [catP, List.length_append, prR_length] at h2
                          rw [List.length_append] at h1 ⊢
                          omega
                        clear hMS hjc
                        go_wp2_with fail
                        go_loopw [16] (fun iv wr => ∃ x : Nat, x ≤ Cn a ∧ iv = .int .i64 x ∧ GrwS [BM] Z wr ∧ ∃ lv, M4 wr BM (.int .i64 (Rn 0 : Int)) (.int .i64 qs) (.int .i64 (n 0)) lv ∧ MS 2 89 (BM + 1) wr lv (glQ Cn i rr ++ catP (fun y => prR y (rr * Cn y) (Cn y)) a ++ prR a jc x).length (prp (glQ Cn i rr ++ catP (fun y => prR y (rr * Cn y) (Cn y)) a ++ prR a jc x))) (fun iv _ => Cn a - (intOf iv).toNat)
                        case atStart => exact ⟨0, Nat.zero_le _, rfl, hG, lv, hM4, hMS0⟩
                        case round =>
                          clear hG hM4 hMS0 lv
                          obtain ⟨x, hx, rfl, hG, lv, hM4, hMS⟩ := hrel
                          obtain ⟨-, c1⟩ := HLs.out wr hG a hai
                          have hln : (glQ Cn i rr ++ catP (fun y => prR y (rr * Cn y) (Cn y)) a ++ prR a jc x).length = (glQ Cn i rr ++ catP (fun y => prR y (rr * Cn y) (Cn y)) a).length + x := by rw [List.length_append, prR_length]
                          by_cases hxr : x < Cn a
                          · have z2 : IntKind.i64.wrap ((x : Int) + 1) = (x : Int) + 1 := by rw [wrap_i64]; omega
                            have z4 : IntKind.i64.wrap ((jc : Int) + (x : Int)) = ((jc + x : Nat) : Int) := by rw [wrap_i64]; omega
                            have g8 : (x : Int) < (Cn a : Int) := by omega
                            have hH : BM + 1 ≤ wr.drew.heap.size := by have := hG.size; show BM + 1 ≤ wr.heap.size; omega
                            have hf3 : wr.drew.frozen? ⟨BM, 3, none⟩ = false := (((Kept.refl wr).drew).frozen _).trans ((hG.frozen _).trans (hZf.out 3))
                            have hsucc : (glQ Cn i rr ++ catP (fun y => prR y (rr * Cn y) (Cn y)) a ++ prR a jc x) ++ [(a, jc + x)] = (glQ Cn i rr ++ catP (fun y => prR y (rr * Cn y) (Cn y)) a ++ prR a jc (x + 1)) := by rw [prR_succ]; simp only [List.append_assoc]
                            have hsl : (glQ Cn i rr ++ catP (fun y => prR y (rr * Cn y) (Cn y)) a ++ prR a jc (x + 1)).length = (glQ Cn i rr ++ catP (fun y => prR y (rr * Cn y) (Cn y)) a ++ prR a jc x).length + 1 := by rw [← hsucc, List.length_append]; rfl
                            have HSx : Hid (∀ u, Kept wr u → Kept wr u ∧ u.cell? ⟨BM, 3, none⟩ = some lv ∧ u.cell? ⟨B, off + a * 3 + 1, none⟩ = some (.int .i64 (Cn a : Int))) := fun u ku => ⟨ku, (ku.bl.cell BM 3 hM4.lt).trans hM4.c3, (ku.bl.cell B _ (by have := hG.size; omega)).trans c1⟩
                            go_upto_region 40 with fail
                            refine wp_region_late [14, 15, 16] (fun u => Kept wr u ∧ u.cell? ⟨BM, 3, none⟩ = some lv ∧ u.cell? ⟨B, off + a * 3 + 1, none⟩ = some (.int .i64 (Cn a : Int))) (by kernel_rfl) (HSx.out _ ((Kept.refl wr).drew)) (fun hHeld => ?_)
                            refine wpAnyD_take (i := 0) (v := ?_) rfl (by kernel_rfl) (by kernel_rfl) (by kernel_rfl) (by kernel_rfl) (fun _ _ _ h => h) (Or.inl ⟨by rfl, ?hya0⟩) hHeld ?_
                            case hya0 => (intro w hSw; (try dsimp only at hSw); go_simp; try (with_reducible rfl))
                            (try simp only [Act.put, List.getElem_toArray, List.getElem_cons_succ, List.getElem_cons_zero, List.setIfInBounds_toArray, List.set_cons_zero, List.set_cons_succ])
                            refine wpAnyD_take (i := 1) (v := ?_) rfl (by kernel_rfl) (by kernel_rfl) (by kernel_rfl) (by kernel_rfl) (fun _ _ _ h => h) (Or.inl ⟨by rfl, ?hya1⟩) hHeld ?_
                            case hya1 => (intro w hSw; (try dsimp only at hSw); go_simp; try (with_reducible rfl))
                            (try simp only [Act.put, List.getElem_toArray, List.getElem_cons_succ, List.getElem_cons_zero, List.setIfInBounds_toArray, List.set_cons_zero, List.set_cons_succ])
                            refine wpAnyD_take (i := 2) (v := ?_) rfl (by kernel_rfl) (by kernel_rfl) (by kernel_rfl) (by kernel_rfl) (fun _ _ _ h => h) (Or.inl ⟨by rfl, ?hya2⟩) hHeld ?_
                            case hya2 => (intro w hSw; (try dsimp only at hSw); go_simp; try (with_reducible rfl))
                            (try simp only [Act.put, List.getElem_toArray, List.getElem_cons_succ, List.getElem_cons_zero, List.setIfInBounds_toArray, List.set_cons_zero, List.set_cons_succ])
                            refine wpAnyD_take (i := 3) (v := ?_) rfl (by kernel_rfl) (by kernel_rfl) (by kernel_rfl) (by kernel_rfl) (fun _ _ _ h => h) (Or.inl ⟨by rfl, ?hya3⟩) hHeld ?_
                            case hya3 => (intro w hSw; (try dsimp only at hSw); go_simp; try (with_reducible rfl))
                            (try simp only [Act.put, List.getElem_toArray, List.getElem_cons_succ, List.getElem_cons_zero, List.setIfInBounds_toArray, List.set_cons_zero, List.set_cons_succ])
                            refine wpAnyD_take (i := 4) (v := ?_) rfl (by kernel_rfl) (by kernel_rfl) (by kernel_rfl) (by kernel_rfl) (fun _ _ _ h => h) (Or.inl ⟨by rfl, ?hya4⟩) hHeld ?_
                            case hya4 => (intro w hSw; (try dsimp only at hSw); go_simp; try (with_reducible rfl))
                            (try simp only [Act.put, List.getElem_toArray, List.getElem_cons_succ, List.getElem_cons_zero, List.setIfInBounds_toArray, List.set_cons_zero, List.set_cons_succ])
                            refine wpAnyD_take (i := 5) (v := ?_) rfl (by kernel_rfl) (by kernel_rfl) (by kernel_rfl) (by kernel_rfl) (fun _ _ _ h => h) (Or.inl ⟨by rfl, ?hya5⟩) hHeld ?_
                            case hya5 => (intro w hSw; (try dsimp only at hSw); go_simp; try (with_reducible rfl))
                            (try simp only [Act.put, List.getElem_toArray, List.getElem_cons_succ, List.getElem_cons_zero, List.setIfInBounds_toArray, List.set_cons_zero, List.set_cons_succ])
                            refine wpAnyD_take (i := 6) (v := ?_) rfl (by kernel_rfl) (by kernel_rfl) (by kernel_rfl) (by kernel_rfl) (fun _ _ _ h => h) (Or.inl ⟨by rfl, ?hya6⟩) hHeld ?_
                            case hya6 => (intro w hSw; (try dsimp only at hSw); go_simp; try (with_reducible rfl))
                            (try simp only [Act.put, List.getElem_toArray, List.getElem_cons_succ, List.getElem_cons_zero, List.setIfInBounds_toArray, List.set_cons_zero, List.set_cons_succ])
                            refine wpAnyD_take (i := 7) (v := ?_) rfl (by kernel_rfl) (by kernel_rfl) (by kernel_rfl) (by kernel_rfl) (fun _ _ _ h => h) (Or.inl ⟨by rfl, ?hya7⟩) hHeld ?_
                            case hya7 => (intro w hSw; (try dsimp only at hSw); go_simp; try (with_reducible rfl))
                            (try simp only [Act.put, List.getElem_toArray, List.getElem_cons_succ, List.getElem_cons_zero, List.setIfInBounds_toArray, List.set_cons_zero, List.set_cons_succ])
                            refine wpAnyD_take (i := 8) (v := ?_) rfl (by kernel_rfl) (by kernel_rfl) (by kernel_rfl) (by kernel_rfl) (fun _ _ _ h => h) (Or.inl ⟨by rfl, ?hya8⟩) hHeld ?_
                            case hya8 => (intro w hSw; (try dsimp only at hSw); go_simp; try (with_reducible rfl))
                            (try simp only [Act.put, List.getElem_toArray, List.getElem_cons_succ, List.getElem_cons_zero, List.setIfInBounds_toArray, List.set_cons_zero, List.set_cons_succ])
                            refine wpAnyD_take (i := 9) (v := ?_) rfl (by kernel_rfl) (by kernel_rfl) (by kernel_rfl) (by kernel_rfl) (fun _ _ _ h => h) (Or.inl ⟨by rfl, ?hya9⟩) hHeld ?_
                            case hya9 => (intro w hSw; (try dsimp only at hSw); go_simp; try (with_reducible rfl))
                            (try simp only [Act.put, List.getElem_toArray, List.getElem_cons_succ, List.getElem_cons_zero, List.setIfInBounds_toArray, List.set_cons_zero, List.set_cons_succ])
                            refine wpAnyD_take (i := 10) (v := ?_) rfl (by kernel_rfl) (by kernel_rfl) (by kernel_rfl) (by kernel_rfl) (fun _ _ _ h => h) (Or.inl ⟨by rfl, ?hya10⟩) hHeld ?_
                            case hya10 => (intro w hSw; (try dsimp only at hSw); go_simp; try (with_reducible rfl))
                            (try simp only [Act.put, List.getElem_toArray, List.getElem_cons_succ, List.getElem_cons_zero, List.setIfInBounds_toArray, List.set_cons_zero, List.set_cons_succ])
                            refine wpAnyD_take (i := 11) (v := ?_) rfl (by kernel_rfl) (by kernel_rfl) (by kernel_rfl) (by kernel_rfl) (fun _ _ _ h => h) (Or.inl ⟨by rfl, ?hya11⟩) hHeld ?_
                            case hya11 => (intro w hSw; (try dsimp only at hSw); go_simp; try (with_reducible rfl))
                            (try simp only [Act.put, List.getElem_toArray, List.getElem_cons_succ, List.getElem_cons_zero, List.setIfInBounds_toArray, List.set_cons_zero, List.set_cons_succ])
                            refine wpAnyD_take (i := 12) (v := ?_) rfl (by kernel_rfl) (by kernel_rfl) (by kernel_rfl) (by kernel_rfl) (fun _ _ _ h => h) (Or.inl ⟨by rfl, ?hya12⟩) hHeld ?_
                            case hya12 => (intro w hSw; (try dsimp only at hSw); go_simp; try (with_reducible rfl))
                            (try simp only [Act.put, List.getElem_toArray, List.getElem_cons_succ, List.getElem_cons_zero, List.setIfInBounds_toArray, List.set_cons_zero, List.set_cons_succ])
                            refine wpAnyD_step (i := 13) (by kernel_rfl) rfl (fun K hK9 => ?_)
                            go_simp
                            refine hK9.out _ _ (HSx.out _ (hHeld.1.alloc _ _)) (fun hHeld13 => ?_)
                            clear hK9 K
                            obtain ⟨v', w', hr, hM', hB', hF'⟩ := app_pairL (BM + 1) wr.drew lv (glQ Cn i rr ++ catP (fun y => prR y (rr * Cn y) (Cn y)) a ++ prR a jc x) (hMS.kept (Kept.refl wr).drew) a (jc + x) hH (by omega)
                            obtain ⟨sa, sc, rfl⟩ := hM'.form
                            rw [hsucc] at hM'
                            obtain ⟨sn, hsn⟩ : ∃ sn, (glQ Cn i rr ++ catP (fun y => prR y (rr * Cn y) (Cn y)) a ++ prR a jc x).length + 1 = sn := ⟨_, rfl⟩
                            rw [hsn] at hr hM' hsl
                            have HF9 : Hid (∀ x, w'.frozen? x = wr.drew.frozen? x) := hF'
                            clear hF'
                            refine wpAnyD_late (i := 14) (by kernel_rfl) rfl rfl (fun K hK9 => ?_)
                            rw [if_pos (by rfl)]
                            refine oper_append_run _ _ _ rfl _ _ rfl rfl _ _ (hr _) ?_
                            refine hK9.out _ _ ?_
                            clear hK9 K
                            (try simp only [Act.put, List.getElem_toArray, List.getElem_cons_succ, List.getElem_cons_zero, List.setIfInBounds_toArray, List.set_cons_zero, List.set_cons_succ])
                            refine wpAnyD_late (i := 15) (by kernel_rfl) rfl rfl (fun K hK9 => ?_)
                            go_simp
                            refine hK9.out _ _ ?_
                            clear hK9 K
                            (try simp only [Act.put, List.getElem_toArray, List.getElem_cons_succ, List.getElem_cons_zero, List.setIfInBounds_toArray, List.set_cons_zero, List.set_cons_succ])
                            obtain ⟨p0, p1, p2, p3⟩ := (hM4.bl (Kept.refl wr).drew.bl).below hB' (by omega)
                            have pf : w'.frozen? ⟨BM, 3, none⟩ = false := (HF9.out _).trans hf3
                            refine wpAnyD_late (i := 16) (by kernel_rfl) rfl rfl (fun K hK9 => ?_)
                            go_simp
                            refine hK9.out _ _ ?_
                            clear hK9 K
                            (try simp only [Act.put, List.getElem_toArray, List.getElem_cons_succ, List.getElem_cons_zero, List.setIfInBounds_toArray, List.set_cons_zero, List.set_cons_succ])
                            refine wpAnyD_done (by kernel_rfl) ?_ _
                            (try simp only [Act.put, List.getElem_toArray, List.getElem_cons_succ, List.getElem_cons_zero, List.setIfInBounds_toArray, List.set_cons_zero, List.set_cons_succ])
                            have HSN : Hid ((glQ Cn i rr ++ catP (fun y => prR y (rr * Cn y) (Cn y)) a ++ prR a jc (x + 1)).length = sn) := hsl
                            have HN : Hid (M4 (w'.setCell ⟨BM, 3, none⟩ (.slice sa sn sc)) BM (.int .i64 (Rn 0 : Int)) (.int .i64 qs) (.int .i64 (n 0)) (.slice sa sn sc)) := M4.set3 ⟨p0, p1, p2, p3⟩ _
                            have HN2 : Hid (MS 2 89 (BM + 1) (w'.setCell ⟨BM, 3, none⟩ (.slice sa sn sc)) (.slice sa sn sc) sn (prp (glQ Cn i rr ++ catP (fun y => prR y (rr * Cn y) (Cn y)) a ++ prR a jc (x + 1)))) := hM'.setOther (by simp) _
                            have HN3 : Hid (GrwS [BM] Z (w'.setCell ⟨BM, 3, none⟩ (.slice sa sn sc))) := ((hG.kept (Kept.refl wr).drew).bl (hB'.mono (by omega)) HF9.out).setCell (by simp) _
                            clear hr hM' hB' hMS hsucc hsl hsn hln
                            go_wp2_with fail
                            go_roundw
                            case rel => exact ⟨x + 1, by omega, by go_num, HN3.out, _, HN.out, by rw [HSN.out]; exact HN2.out⟩
                            case measure => simp [intOf]; omega
                          · have hxe : x = Cn a := by omega
                            have HMx : Hid (MS 2 89 (BM + 1) wr lv (glQ Cn i rr ++ catP (fun y => prR y (rr * Cn y) (Cn y)) (a + 1)).length (prp (glQ Cn i rr ++ catP (fun y => prR y (rr * Cn y) (Cn y)) (a + 1)))) := by
                              show MS 2 89 (BM + 1) wr lv (glQ Cn i rr ++ (catP (fun y => prR y (rr * Cn y) (Cn y)) a ++ prR a (rr * Cn a) (Cn a))).length (prp (glQ Cn i rr ++ (catP (fun y => prR y (rr * Cn y) (Cn y)) a ++ prR a (rr * Cn a) (Cn a))))
                              rw [HJC.out, ← List.append_assoc, ← hxe]
                              exact hMS
                            have g9 : ¬ (x : Int) < (Cn a : Int) := by omega
                            clear hMS hln
                            go_wp2_with fail
                            go_roundw
                            case rel => exact ⟨a + 1, by omega, by go_num, hG, lv, hM4, HMx.out⟩
                            case measure => simp [intOf]; omega
                      · obtain rfl : a = i := by omega
                        have HMx : Hid (MS 2 89 (BM + 1) wr lv (glQ Cn a (rr + 1)).length (prp (glQ Cn a (rr + 1)))) := hMS
                        clear hMS
                        go_wp2_with fail
                        go_roundw
                        case rel => exact ⟨rr + 1, by omega, by go_num, hG, lv, hM4, HMx.out⟩
                        case measure => simp [intOf]; omega
                  · obtain rfl : rr = Rn 0 := by omega
                    have g9 : ¬ (Rn 0 : Int) < (Rn 0 : Int) := by omega
                    have hR' := hG.m4 (hR.bl kZ.bl) (by simp; omega)
                    have f1 : ∀ o, wr.frozen? ⟨w.heap.size, o, none⟩ = false := fun o => (hG.frozen _).trans ((kZ.frozen _).trans (hF.out o))
                    obtain ⟨sa, sc, rfl⟩ := hMS.form
                    have HM9 : Hid (MS 2 89 (BM + 1) wr (.slice sa (glQ Cn i (Rn 0)).length sc) (glQ Cn i (Rn 0)).length (prp (glQ Cn i (Rn 0)))) := hMS
                    have kW9 : Kept w wr := (hK.trans kZ).grwS (by simp; omega) hG
                    obtain ⟨o0, o1, o2, o3⟩ := hM4
                    obtain ⟨p0, p1, p2, p3⟩ := res4 wr _ _ _ _ _ hR' (.int .i64 (Rn 0 : Int)) (.int .i64 qs) (.int .i64 (n 0)) (.slice sa (glQ Cn i (Rn 0)).length sc)
                    obtain ⟨r0, r1, r2, r3⟩ := hR'
                    clear hMS
                    go_wp2_with fail
                    exact bodyPost_ret (v := .tuple #[.agg #[(.int .i64 (Rn 0 : Int)), (.int .i64 qs), (.int .i64 (n 0)), .slice sa (glQ Cn i (Rn 0)).length sc], .int .i64 0]) (by simp [results, Try.results42, go_sem, *]) rfl ⟨_, rfl, MS.mono (H := BM + 1) (((((show MS 2 89 (BM + 1) wr (.slice sa (glQ Cn i (Rn 0)).length sc) (glQ Cn i (Rn 0)).length (prp (glQ Cn i (Rn 0))) from HM9.out).setOther (p := ⟨w.heap.size, 0, none⟩) (by simp; omega) (.int .i64 (Rn 0 : Int))).setOther (p := ⟨w.heap.size, 1, none⟩) (by simp; omega) _).setOther (p := ⟨w.heap.size, 2, none⟩) (by simp; omega) _).setOther (p := ⟨w.heap.size, 3, none⟩) (by simp; omega) _) (by omega), (kW9.setCell (by simp) _).setCell (by simp) _ |>.setCell (by simp) _ |>.setCell (by simp) _⟩

              · have hqb : (e != 0) = true := by simpa using he
                obtain ⟨rfl, rfl, rfl⟩ := hq3 he
                clear hq2 hq3 HP HB HM HA2
                obtain ⟨p0, p1, p2, p3⟩ := res4 wr _ _ _ _ _ hr1 (.int .i64 0) (.int .i64 0) (.int .i64 0) (.slice none 0 0)
                obtain ⟨r0, r1, r2, r3⟩ := hr1
                go_wp2_with (first | (go_at_call 20; refine (KZ.out _).mono ?_; rintro x w5 ⟨rfl, rfl⟩))
                exact bodyPost_ret (v := .tuple #[.agg #[.int .i64 0, .int .i64 0, .int .i64 0, .slice none 0 0], .int .i64 e]) (by simp [results, Try.results42, go_sem, *]) rfl ⟨_, rfl, fun _ => rfl, fun h => absurd h he, ((hK.trans kG).setCell (by simp) _).setCell (by simp) _ |>.setCell (by simp) _ |>.setCell (by simp) _⟩

end Go.Proofs.Ytcldcjchfagcoaa

namespace Go.Proofs.Ytcldcjchfagcoaa
open Go.ChangeShapes Go.WideShapes Go.ChangeAt Go.RowKit
set_option linter.unusedVariables false
set_option linter.unusedSimpArgs false

set_option maxHeartbeats 8000000 in
set_option maxRecDepth 100000 in
theorem rglueR (B off k lc : Nat) (hk0 : 0 < k) (hk : k ≤ 1000000) (Rn Cn : Nat → Nat) (n : Nat → Int) (hRC : ∀ i, i < k → 0 < Rn i ∧ 0 < Cn i ∧ Rn i ≤ 4096 ∧ Cn i ≤ 4096 ∧ Rn i * Cn i ≤ 4096) (hn : n 0 = 64 ∨ n 0 = 32) (w : World) (hM : Ls w B off k (fun i => (Rn i : Int)) (fun i => (Cn i : Int)) n) (ea eb ed e : Int) (hE : GlE k (fun i => (Cn i : Int)) (fun i => (Rn i : Int)) n ea eb ed e) (hP : e = 0 → (glP Rn Cn k).length ≤ 4096) :
    Calls Try.prog 42 #[.slice (some ⟨B, off, none⟩) k lc, .bool false] w fun x w' => ∃ v, x = .returned (.tuple #[.agg #[(.int .i64 eb), (.int .i64 ea), (.int .i64 ed), v], .int .i64 e]) ∧ (e ≠ 0 → v = .slice none 0 0) ∧ (e = 0 → MS 2 89 w.heap.size w' v (glP Rn Cn k).length (prp (glP Rn Cn k))) ∧ Kept w w' := by
  obtain ⟨X, hX⟩ : ∃ X, X = w.alloc (.cells #[.int .i64 0, .int .i64 0, .int .i64 0, .slice none 0 0] 60) := ⟨_, rfl⟩
  have hK : Kept w X := by rw [hX]; exact (Kept.refl w).alloc _ _
  have hR : M4 X w.heap.size (.int .i64 0) (.int .i64 0) (.int .i64 0) (.slice none 0 0) := by rw [hX]; exact M4.new _ _ _ _ _ _
  have hF : Hid (∀ o, X.frozen? ⟨w.heap.size, o, none⟩ = false) := fun o => by rw [hX]; simp [go_sem]
  have HM : Hid (∀ u, Bl X u → Ls u B off k (fun i => (Rn i : Int)) (fun i => (Cn i : Int)) n) := fun u kk => hM.bl (hK.bl.trans kk)
  have HE : Hid (GlE k (fun i => (Cn i : Int)) (fun i => (Rn i : Int)) n ea eb ed e) := hE
  have HB : Hid (∀ i, i < k → 0 < Rn i ∧ 0 < Cn i ∧ Rn i ≤ 4096 ∧ Cn i ≤ 4096 ∧ Rn i * Cn i ≤ 4096) := hRC
  have HP : Hid (e = 0 → (glP Rn Cn k).length ≤ 4096) := hP
  have HS : Hid (∀ j, j ≤ k → 0 ≤ sm (fun i => (Rn i : Int)) j ∧ sm (fun i => (Rn i : Int)) j ≤ 1000000 * j) := fun j hj => sm_le _ 1000000 j (fun i hi => by have := hRC i (by omega); show 0 ≤ (Rn i : Int) ∧ (Rn i : Int) ≤ 1000000; omega)
  have hBX : B < w.heap.size := hM.lt
  have hXw : w.heap.size < X.heap.size := hR.lt
  clear hE hM hRC hP
  go_enter Try.func42, Try.ntmps42
  go_upto_region 1 with fail
  rw [← hX]
  clear hX
  have hkz : ((k : Int) == 0) = false := by simp; omega
  go_wp2_with fail
  go_loopw [6] (fun iv wr => ∃ i : Nat, 1 ≤ i ∧ i ≤ k ∧ iv = .int .i64 i ∧ Kept X wr ∧ ∀ x, x < i → n x = n 0) (fun iv _ => k - (intOf iv).toNat)
  case atStart => exact ⟨1, Nat.le_refl _, by omega, rfl, Kept.refl X, fun x hx => by (have h0 : x = 0 := by omega); rw [h0]⟩
  case round =>
    obtain ⟨i, hi1, hi, rfl, kr, hall⟩ := hrel
    have HA : Hid (∀ x, x < i → n x = n 0) := hall
    clear hall
    obtain ⟨d0, d1, d2⟩ := (HM.out wr kr.bl).rd 0 hk0
    rw [Nat.zero_mul, Nat.add_zero] at d0 d1 d2
    by_cases hik : i < k
    · obtain ⟨c0, c1, c2⟩ := (HM.out wr kr.bl).rd i hik
      have z0 : IntKind.i64.wrap ((i : Int) + 1) = (i : Int) + 1 := by rw [wrap_i64]; omega
      by_cases hz : n i = n 0
      · have hz2 : (n i != n 0) = false := by simpa using hz
        have hz3 : (n i == n 0) = true := by simpa using hz
        clear HM HE HB HP HS
        go_upto_region 6 with fail
        go_quiet (fail)
        go_wp2_with fail
        go_roundw
        case rel => exact ⟨i + 1, by omega, by omega, by go_num, kr.drewN _, fun x hx => (Nat.lt_succ_iff_lt_or_eq.1 hx).elim (fun h => HA.out x h) (fun h => by rw [h]; exact hz)⟩
        case measure => simp [intOf]; omega
      · have hz2 : (n i != n 0) = true := by simpa using hz
        have hz3 : (n i == n 0) = false := by simpa using hz
        obtain ⟨rfl, rfl, rfl, rfl⟩ : ea = 0 ∧ eb = 0 ∧ ed = 0 ∧ e = 3 := by
          rcases HE.out with ⟨-, h⟩ | ⟨h, -⟩ | ⟨h, -⟩
          · exact h
          · exact absurd (h i hik) hz
          · exact absurd (h i hik) hz
        have hr1 := hR.bl kr.bl
        have f1 : ∀ o, wr.frozen? ⟨w.heap.size, o, none⟩ = false := fun o => (kr.frozen _).trans (hF.out o)
        clear HM HE HB HP HS HA
        go_upto_region 6 with fail
        go_quiet (fail)
        obtain ⟨r0, r1, r2, r3⟩ := hr1
        go_wp2_with fail
        exact bodyPost_ret (v := .tuple #[.agg #[.int .i64 0, .int .i64 0, .int .i64 0, .slice none 0 0], .int .i64 3]) (by simp [results, Try.results42, go_sem, *]) rfl ⟨_, rfl, fun _ => rfl, fun h => absurd h (by decide), (((hK.trans kr).drewN _).setCell (by simp) _).setCell (by simp) _ |>.setCell (by simp) _ |>.setCell (by simp) _⟩
    · obtain rfl : i = k := by omega
      have HA1 : Hid (∀ x, x < i → n x = n 0) := HA
      clear HA
      go_upto_region 9 with fail
      obtain ⟨Y, hY⟩ : ∃ Y, Y = wr.alloc (.cells #[.int .i64 (Rn 0 : Int), .int .i64 (Cn 0 : Int), .int .i64 (n 0)] 44) := ⟨_, rfl⟩
      rw [← hY]
      have kY : Kept X Y := by rw [hY]; exact kr.alloc _ _
      have hYs : M3 Y wr.heap.size (.int .i64 (Rn 0 : Int)) (.int .i64 (Cn 0 : Int)) (.int .i64 (n 0)) := by rw [hY]; exact M3.new _ _ _ _ _
      have hYf : Hid (∀ o, Y.frozen? ⟨wr.heap.size, o, none⟩ = false) := fun o => by rw [hY]; simp [go_sem]
      have hXS := kr.below.size
      have hSY := hYs.lt
      generalize wr.heap.size = BS at *
      clear hY d0 d1 d2 kr
      go_wp2_with fail
      go_loopw [8] (fun iv wr => ∃ j : Nat, 1 ≤ j ∧ j ≤ i ∧ iv = .int .i64 j ∧ Kept Y wr ∧ ∀ x, x < j → Cn x = Cn 0) (fun iv _ => i - (intOf iv).toNat)
      case atStart => exact ⟨1, Nat.le_refl _, by omega, rfl, Kept.refl Y, fun x hx => by (have h0 : x = 0 := by omega); rw [h0]⟩
      case round =>
        obtain ⟨j, hj1, hj, rfl, kr, hall⟩ := hrel
        have HA : Hid (∀ x, x < j → Cn x = Cn 0) := hall
        clear hall
        by_cases hik : j < i
        · obtain ⟨c0, c1, c2⟩ := (HM.out wr (kY.trans kr).bl).rd j hik
          obtain ⟨s0, s1, s2⟩ := hYs.bl kr.bl
          have z0 : IntKind.i64.wrap ((j : Int) + 1) = (j : Int) + 1 := by rw [wrap_i64]; omega
          by_cases hz : Cn j = Cn 0
          · have hz2 : ((Cn j : Int) != (Cn 0 : Int)) = false := by rw [hz]; simp
            have hz3 : ((Cn j : Int) == (Cn 0 : Int)) = true := by rw [hz]; simp
            clear HM HE HB HP HS HA1
            go_upto_region 12 with fail
            go_quiet (fail)
            go_wp2_with fail
            go_roundw
            case rel => exact ⟨j + 1, by omega, by omega, by go_num, kr.drewN _, fun x hx => (Nat.lt_succ_iff_lt_or_eq.1 hx).elim (fun h => HA.out x h) (fun h => by rw [h]; exact hz)⟩
            case measure => simp [intOf]; omega
          · have hz2 : ((Cn j : Int) != (Cn 0 : Int)) = true := by simp; omega
            have hz3 : ((Cn j : Int) == (Cn 0 : Int)) = false := by simp; omega
            obtain ⟨rfl, rfl, rfl, rfl⟩ : ea = 0 ∧ eb = 0 ∧ ed = 0 ∧ e = 4 := by
              rcases HE.out with ⟨⟨x, hx, h⟩, -⟩ | ⟨-, -, h⟩ | ⟨-, h, -⟩
              · exact absurd (HA1.out x hx) h
              · exact h
              · exact absurd (Int.ofNat.inj (h j hik)) hz
            have hr1 := hR.bl (kY.trans kr).bl
            have f1 : ∀ o, wr.frozen? ⟨w.heap.size, o, none⟩ = false := fun o => ((kY.trans kr).frozen _).trans (hF.out o)
            clear HM HE HB HP HS HA1 HA
            go_upto_region 12 with fail
            go_quiet (fail)
            obtain ⟨r0, r1, r2, r3⟩ := hr1
            go_wp2_with fail
            exact bodyPost_ret (v := .tuple #[.agg #[.int .i64 0, .int .i64 0, .int .i64 0, .slice none 0 0], .int .i64 4]) (by simp [results, Try.results42, go_sem, *]) rfl ⟨_, rfl, fun _ => rfl, fun h => absurd h (by decide), (((hK.trans (kY.trans kr)).drewN _).setCell (by simp) _).setCell (by simp) _ |>.setCell (by simp) _ |>.setCell (by simp) _⟩
        · obtain rfl : j = i := by omega
          have HA2 : Hid (∀ x, x < j → Cn x = Cn 0) := HA
          clear HA
          have hq : e = ckR (Cn 0 : Int) (sm (fun i => (Rn i : Int)) j) ∧ (e = 0 → ea = (Cn 0 : Int) ∧ eb = sm (fun i => (Rn i : Int)) j ∧ ed = n 0) ∧ (e ≠ 0 → ea = 0 ∧ eb = 0 ∧ ed = 0) := by
            rcases HE.out with ⟨⟨x, hx, h⟩, -⟩ | ⟨-, ⟨x, hx, h⟩, -⟩ | ⟨-, -, h⟩
            · exact absurd (HA1.out x hx) h
            · exact absurd (congrArg Int.ofNat (HA2.out x hx)) h
            · exact h
          have HQ : Hid _ := hq
          clear hq HE
          have hYr := hYs.bl kr.bl
          have kX1 := kY.trans kr
          have hYf1 : Hid (∀ o, wr.frozen? ⟨BS, o, none⟩ = false) := fun o => (kr.frozen _).trans (hYf.out o)
          have hs1 : sm (fun i => (Rn i : Int)) 1 = (Rn 0 : Int) := by simp [sm]
          go_wp2_with fail
          obtain ⟨Y1, hY1⟩ : ∃ Y1, Y1 = wr := ⟨_, rfl⟩
          rw [← hY1] at hYr kX1 hYf1 ⊢
          have hSY1 : BS < Y1.heap.size := hYr.lt
          clear hY1 hYs kr hYf kY
          go_loopw [9] (fun iv wr => ∃ i : Nat, 1 ≤ i ∧ i ≤ j ∧ iv = .int .i64 i ∧ M3 wr BS (.int .i64 (sm (fun i => (Rn i : Int)) i)) (.int .i64 (Cn 0 : Int)) (.int .i64 (n 0)) ∧ Grw BS Y1 wr) (fun iv _ => j - (intOf iv).toNat)
          case atStart => exact ⟨1, Nat.le_refl _, by omega, rfl, by rw [hs1]; exact hYr, Grw.refl _ _⟩
          case round =>
            obtain ⟨i, hi1, hi, rfl, hS, hG⟩ := hrel
            by_cases hij : i < j
            · obtain ⟨c0, c1, c2⟩ := (HM.out Y1 kX1.bl).rd i hij
              have hBn : B ≠ BS := by omega
              have hBl : B < Y1.heap.size := by omega
              replace c0 := (hG.cellx B _ hBl hBn).trans c0
              replace c1 := (hG.cellx B _ hBl hBn).trans c1
              replace c2 := (hG.cellx B _ hBl hBn).trans c2
              have z0 : IntKind.i64.wrap ((i : Int) + 1) = (i : Int) + 1 := by rw [wrap_i64]; omega
              have z1 : IntKind.i64.wrap (sm (fun i => (Rn i : Int)) i + (Rn i : Int)) = sm (fun i => (Rn i : Int)) (i + 1) := by
                have h1 := HS.out (i + 1) (by omega)
                rw [sm] at h1 ⊢
                rw [wrap_i64]
                omega
              have f1 : wr.frozen? ⟨BS, 0, none⟩ = false := (hG.frozen _).trans (hYf1.out _)
              have HS2 : Hid (M3 (wr.setCell ⟨BS, 0, none⟩ (.int .i64 (sm (fun i => (Rn i : Int)) (i + 1)))) BS (.int .i64 (sm (fun i => (Rn i : Int)) (i + 1))) (.int .i64 (Cn 0 : Int)) (.int .i64 (n 0))) := by
                obtain ⟨s0, s1, s2⟩ := hS
                exact ⟨by simp [go_sem, *], by simp [go_sem, *], by simp [go_sem, *]⟩
              obtain ⟨s0, s1, s2⟩ := hS
              clear HM HB HP HS HA1 HA2 HQ
              go_upto_region 19 with fail
              go_region
              all_goals go_wp2_with fail
              all_goals go_roundw
              case rel => exact ⟨i + 1, by omega, by omega, by go_num, HS2.out.bl ((Bl.refl _).drew), (hG.setCell _ _).trans ((Kept.refl _).drew.toGrw _)⟩
              case measure => simp [intOf]; omega
            · obtain rfl : i = j := by omega
              obtain ⟨hq1, hq2, hq3⟩ := HQ.out
              have hpos : 1 ≤ sm (fun i => (Rn i : Int)) i := by
                obtain ⟨m, rfl⟩ : ∃ m, i = m + 1 := ⟨i - 1, by omega⟩
                rw [sm]
                have h1 := HB.out m (by omega)
                have h2 := HS.out m (by omega)
                omega
              have hpo : (1 : Int) ≤ (Cn 0 : Int) := by have := HB.out 0 hk0; omega
              have KZ : Hid (∀ u, Calls Try.prog 20 #[.int .i64 (sm (fun i => (Rn i : Int)) i), .int .i64 (Cn 0 : Int), .int .i64 (n 0)] u fun x w' => x = .returned (.int .i64 e) ∧ u = w') := fun u => by
                have h1 := sized_any (sm (fun i => (Rn i : Int)) i) (Cn 0 : Int) (n 0) u
                rw [ckS_ckR hn (by omega) (by omega), ckR_comm hpos hpo, ← hq1] at h1
                exact h1
              have kG : Kept X wr := kX1.grw (by omega) hG
              have hr1 := hR.bl kG.bl
              have f1 : ∀ o, wr.frozen? ⟨w.heap.size, o, none⟩ = false := fun o => (kG.frozen _).trans (hF.out o)
              have hrS := HS.out i (by omega)
              clear HQ HS HA1 hq1
              have hS' := hS
              obtain ⟨s0, s1, s2⟩ := hS'
              by_cases he : e = 0
              · subst he
                obtain ⟨rfl, rfl, rfl⟩ := hq2 rfl
                have HPL := HP.out rfl
                clear hq2 hq3 HP
                have kSz : w.heap.size < wr.heap.size := by have := kG.below.size; omega
                go_upto_region 24 with (first | (go_at_call 20; refine (KZ.out _).mono ?_; rintro x w5 ⟨rfl, rfl⟩))
                obtain ⟨Z, hZ⟩ : ∃ Z, Z = wr.alloc (.cells #[(.int .i64 (sm (fun i => (Rn i : Int)) i)), (.int .i64 (Cn 0 : Int)), (.int .i64 (n 0)), .slice none 0 0] 60) := ⟨_, rfl⟩
                rw [← hZ]
                have kZ : Kept X Z := by rw [hZ]; exact kG.alloc _ _
                have hZM : M4 Z wr.heap.size (.int .i64 (sm (fun i => (Rn i : Int)) i)) (.int .i64 (Cn 0 : Int)) (.int .i64 (n 0)) (.slice none 0 0) := by rw [hZ]; exact M4.new _ _ _ _ _ _
                have hZf : Hid (∀ o, Z.frozen? ⟨wr.heap.size, o, none⟩ = false) := fun o => by rw [hZ]; simp [go_sem]
                have hZS : M3 Z BS (.int .i64 (sm (fun i => (Rn i : Int)) i)) (.int .i64 (Cn 0 : Int)) (.int .i64 (n 0)) := by rw [hZ]; exact hS.bl ((Bl.refl wr).alloc _)
                have hBSZ : BS < wr.heap.size := hS.lt
                have hZs : Z.heap.size = wr.heap.size + 1 := by rw [hZ]; simp
                have hXZ : X.heap.size ≤ wr.heap.size := kG.below.size
                clear hZ s0 s1 s2 hS hG KZ f1 hr1 kG
                generalize wr.heap.size = BM at *
                generalize hsm : (sm (fun i => (Rn i : Int)) i) = qs at *
                have HLs : Hid (∀ u, GrwS [BM] Z u → ∀ x, x < i → u.cell? ⟨B, off + x * 3, none⟩ = some (.int .i64 (Rn x : Int)) ∧ u.cell? ⟨B, off + x * 3 + 1, none⟩ = some (.int .i64 (Cn x : Int))) := fun u hu x hx => by
                  obtain ⟨c0, c1, -⟩ := (HM.out Z kZ.bl).rd x hx
                  have hlt := (HM.out Z kZ.bl).lt
                  exact ⟨(hu.cell hlt (by simp; omega)).trans c0, (hu.cell hlt (by simp; omega)).trans c1⟩
                have hM0 : MS 2 89 (BM + 1) Z (.slice none 0 0) 0 (prp []) := .inl ⟨rfl, rfl, rfl⟩
                clear HM
                go_wp2_with fail
                go_loopw [12] (fun iv wr => ∃ a : Nat, a ≤ i ∧ iv = .int .i64 a ∧ GrwS [BM] Z wr ∧ ∃ lv, M4 wr BM (.int .i64 qs) (.int .i64 (Cn 0 : Int)) (.int .i64 (n 0)) lv ∧ MS 2 89 (BM + 1) wr lv (catP (fun i => prR i 0 (Rn i * Cn i)) a).length (prp (catP (fun i => prR i 0 (Rn i * Cn i)) a))) (fun iv _ => i - (intOf iv).toNat)
                case atStart => exact ⟨0, Nat.zero_le _, rfl, GrwS.refl _ _, _, hZM, hM0⟩
                case round =>
                  obtain ⟨a, ha, rfl, hG, lv, hM4, hMS⟩ := hrel
                  by_cases hai : a < i
                  · have z0 : IntKind.i64.wrap ((a : Int) + 1) = (a : Int) + 1 := by rw [wrap_i64]; omega
                    have hMS0 : MS 2 89 (BM + 1) wr lv (catP (fun i => prR i 0 (Rn i * Cn i)) a ++ prR a 0 0).length (prp (catP (fun i => prR i 0 (Rn i * Cn i)) a ++ prR a 0 0)) := by simpa [prR] using hMS
                    have hal : (catP (fun i => prR i 0 (Rn i * Cn i)) (a + 1)).length ≤ 4096 := Nat.le_trans (catP_mono _ (a + 1) i hai) HPL
                    rw [catP, List.length_append, prR_length] at hal
                    have hb := HB.out a hai
                    obtain ⟨rc, hrc⟩ : ∃ rc, Rn a * Cn a = rc := ⟨_, rfl⟩
                    have HRC : Hid (Rn a * Cn a = rc) := hrc
                    have z9 : IntKind.i64.wrap ((Rn a : Int) * (Cn a : Int)) = (rc : Int) := by
                      have : (Rn a : Int) * (Cn a : Int) = (rc : Int) := by rw [← hrc]; simp
                      rw [this, wrap_i64]
                      omega
                    rw [hrc] at hal hb
                    clear hMS hrc
                    go_wp2_with fail
                    go_loopw [13] (fun iv wr => ∃ x : Nat, x ≤ rc ∧ iv = .int .i64 x ∧ GrwS [BM] Z wr ∧ ∃ lv, M4 wr BM (.int .i64 qs) (.int .i64 (Cn 0 : Int)) (.int .i64 (n 0)) lv ∧ MS 2 89 (BM + 1) wr lv (catP (fun i => prR i 0 (Rn i * Cn i)) a ++ prR a 0 x).length (prp (catP (fun i => prR i 0 (Rn i * Cn i)) a ++ prR a 0 x))) (fun iv _ => rc - (intOf iv).toNat)
                    case atStart => exact ⟨0, Nat.zero_le _, rfl, hG, lv, hM4, hMS0⟩
                    case round =>
                      clear hG hM4 hMS0 lv
                      obtain ⟨x, hx, rfl, hG, lv, hM4, hMS⟩ := hrel
                      obtain ⟨c0, c1⟩ := HLs.out wr hG a hai
                      have hln : ((catP (fun i => prR i 0 (Rn i * Cn i)) a ++ prR a 0 x)).length = (catP (fun i => prR i 0 (Rn i * Cn i)) a).length + x := by rw [List.length_append, prR_length]
                      by_cases hxr : x < rc
                      · have z2 : IntKind.i64.wrap ((x : Int) + 1) = (x : Int) + 1 := by rw [wrap_i64]; omega
                        have g8 : (x : Int) < (rc : Int) := by omega
                        go_upto_region 28 with fail
                        go_quiet (fail)
                        have kd : Kept wr (wr.drewN nq) := (Kept.refl wr).drewN nq
                        have hGd := hG.kept kd
                        have hM4d := hM4.bl kd.bl
                        have hMSd := hMS.kept kd
                        generalize wr.drewN nq = wd at *
                        clear hG hM4 hMS kd c0 c1
                        have hH : BM + 1 ≤ wd.heap.size := by have := hGd.size; omega
                        obtain ⟨v', w', hr, hM', hB', hF'⟩ := app_pairL (BM + 1) wd lv (catP (fun i => prR i 0 (Rn i * Cn i)) a ++ prR a 0 x) hMSd a x hH (by omega)
                        obtain ⟨sa, sc, rfl⟩ := hM'.form
                        have hsucc : (catP (fun i => prR i 0 (Rn i * Cn i)) a ++ prR a 0 x) ++ [(a, x)] = (catP (fun i => prR i 0 (Rn i * Cn i)) a ++ prR a 0 (x + 1)) := by rw [prR_succ, Nat.zero_add, List.append_assoc]
                        have hsl : ((catP (fun i => prR i 0 (Rn i * Cn i)) a ++ prR a 0 (x + 1))).length = (catP (fun i => prR i 0 (Rn i * Cn i)) a ++ prR a 0 x).length + 1 := by rw [← hsucc, List.length_append]; rfl
                        rw [hsucc] at hM'
                        obtain ⟨sn, hsn⟩ : ∃ sn, (catP (fun i => prR i 0 (Rn i * Cn i)) a ++ prR a 0 x).length + 1 = sn := ⟨_, rfl⟩
                        rw [hsn] at hr hM' hsl
                        have HSN : Hid (((catP (fun i => prR i 0 (Rn i * Cn i)) a ++ prR a 0 (x + 1))).length = sn) := hsl
                        have HR9 : Hid (∀ ty, (Builtin.append_ #[58, 58] ty #[lv, .slice (some ⟨wd.heap.size, 0, none⟩) 1 1]).run Try.prog (wd.alloc (.cells #[.int .i64 (a : Nat), .int .i64 (x : Nat)] 89)) = .ok (.slice sa sn sc) w') := hr
                        have hM4' := hM4d.below hB' (by omega)
                        have pf : w'.frozen? ⟨BM, 3, none⟩ = false := (hF' _).trans ((hGd.frozen _).trans (hZf.out 3))
                        have HN : Hid (M4 (w'.setCell ⟨BM, 3, none⟩ (.slice sa sn sc)) BM (.int .i64 qs) (.int .i64 (Cn 0 : Int)) (.int .i64 (n 0)) (.slice sa sn sc)) := hM4'.set3 _
                        have HN2 : Hid (MS 2 89 (BM + 1) (w'.setCell ⟨BM, 3, none⟩ (.slice sa sn sc)) (.slice sa sn sc) sn (prp (catP (fun i => prR i 0 (Rn i * Cn i)) a ++ prR a 0 (x + 1)))) := hM'.setOther (by simp) _
                        have HN3 : Hid (GrwS [BM] Z (w'.setCell ⟨BM, 3, none⟩ (.slice sa sn sc))) := (hGd.bl (hB'.mono (by omega)) hF').setCell (by simp) _
                        obtain ⟨o0, o1, o2, o3⟩ := hM4d
                        obtain ⟨p0, p1, p2, p3⟩ := hM4'
                        clear hr hM' hB' hF' hMSd hsucc hsl hsn hln
                        go_wp2_with (first | (at_builtin; refine wpList_append_run rfl _ _ _ rfl _ _ rfl rfl _ _ (HR9.out _) ?_))
                        go_roundw
                        case rel => exact ⟨x + 1, by omega, by go_num, HN3.out, _, HN.out, by rw [HSN.out]; exact HN2.out⟩
                        case measure => simp [intOf]; omega
                      · obtain rfl : x = rc := by omega
                        have HMx : Hid (MS 2 89 (BM + 1) wr lv (catP (fun i => prR i 0 (Rn i * Cn i)) (a + 1)).length (prp (catP (fun i => prR i 0 (Rn i * Cn i)) (a + 1)))) := by
                          show MS 2 89 (BM + 1) wr lv (catP (fun i => prR i 0 (Rn i * Cn i)) a ++ prR a 0 (Rn a * Cn a)).length (prp (catP (fun i => prR i 0 (Rn i * Cn i)) a ++ prR a 0 (Rn a * Cn a)))
                          rw [HRC.out]
                          exact hMS
                        have g9 : ¬ (x : Int) < (x : Int) := by omega
                        clear hMS hln
                        go_upto_region 28 with fail
                        go_quiet (fail)
                        have kd : Kept wr (wr.drewN nq) := (Kept.refl wr).drewN nq
                        have hGd := hG.kept kd
                        have hM4d := hM4.bl kd.bl
                        have HMd : Hid _ := HMx.out.kept kd
                        generalize wr.drewN nq = wd at *
                        go_wp2_with fail
                        go_roundw
                        case rel => exact ⟨a + 1, by omega, by go_num, hGd, lv, hM4d, HMd.out⟩
                        case measure => simp [intOf]; omega
                  · obtain rfl : a = i := by omega
                    have hMS' : MS 2 89 (BM + 1) wr lv (glP Rn Cn a).length (prp (glP Rn Cn a)) := hMS
                    clear hMS
                    have hMS := hMS'
                    clear hMS'
                    have hR' := hG.m4 (hR.bl kZ.bl) (by simp; omega)
                    have f1 : ∀ o, wr.frozen? ⟨w.heap.size, o, none⟩ = false := fun o => (hG.frozen _).trans ((kZ.frozen _).trans (hF.out o))
                    obtain ⟨sa, sc, rfl⟩ := hMS.form
                    have HM9 : Hid (MS 2 89 (BM + 1) wr (.slice sa (glP Rn Cn a).length sc) (glP Rn Cn a).length (prp (glP Rn Cn a))) := hMS
                    have kW9 : Kept w wr := (hK.trans kZ).grwS (by simp; omega) hG
                    obtain ⟨o0, o1, o2, o3⟩ := hM4
                    obtain ⟨p0, p1, p2, p3⟩ := res4 wr _ _ _ _ _ hR' (.int .i64 qs) (.int .i64 (Cn 0 : Int)) (.int .i64 (n 0)) (.slice sa (glP Rn Cn a).length sc)
                    obtain ⟨r0, r1, r2, r3⟩ := hR'
                    clear hMS
                    obtain ⟨s0, s1, s2⟩ : M3 wr BS (.int .i64 qs) (.int .i64 (Cn 0 : Int)) (.int .i64 (n 0)) := ⟨(hG.cell hZS.lt (by simp; omega)).trans hZS.c0, (hG.cell hZS.lt (by simp; omega)).trans hZS.c1, (hG.cell hZS.lt (by simp; omega)).trans hZS.c2⟩
                    go_wp2_with fail
                    refine wp_loop_rounds 1 ?_
                    rw [rounds_succ]
                    go_wp2_with fail
                    exact bodyPost_ret (v := .tuple #[.agg #[(.int .i64 qs), (.int .i64 (Cn 0 : Int)), (.int .i64 (n 0)), .slice sa (glP Rn Cn a).length sc], .int .i64 0]) (by simp [results, Try.results42, go_sem, *]) rfl ⟨_, rfl, MS.mono (H := BM + 1) (((((show MS 2 89 (BM + 1) wr (.slice sa (glP Rn Cn a).length sc) (glP Rn Cn a).length (prp (glP Rn Cn a)) from HM9.out).setOther (p := ⟨w.heap.size, 0, none⟩) (by simp; omega) (.int .i64 qs)).setOther (p := ⟨w.heap.size, 1, none⟩) (by simp; omega) _).setOther (p := ⟨w.heap.size, 2, none⟩) (by simp; omega) _).setOther (p := ⟨w.heap.size, 3, none⟩) (by simp; omega) _) (by omega), (kW9.setCell (by simp) _).setCell (by simp) _ |>.setCell (by simp) _ |>.setCell (by simp) _⟩

              · have hqb : (e != 0) = true := by simpa using he
                obtain ⟨rfl, rfl, rfl⟩ := hq3 he
                clear hq2 hq3 HP HB HM HA2
                obtain ⟨p0, p1, p2, p3⟩ := res4 wr _ _ _ _ _ hr1 (.int .i64 0) (.int .i64 0) (.int .i64 0) (.slice none 0 0)
                obtain ⟨r0, r1, r2, r3⟩ := hr1
                go_wp2_with (first | (go_at_call 20; refine (KZ.out _).mono ?_; rintro x w5 ⟨rfl, rfl⟩))
                exact bodyPost_ret (v := .tuple #[.agg #[.int .i64 0, .int .i64 0, .int .i64 0, .slice none 0 0], .int .i64 e]) (by simp [results, Try.results42, go_sem, *]) rfl ⟨_, rfl, fun _ => rfl, fun h => absurd h he, ((hK.trans kG).setCell (by simp) _).setCell (by simp) _ |>.setCell (by simp) _ |>.setCell (by simp) _⟩
end Go.Proofs.Ytcldcjchfagcoaa
