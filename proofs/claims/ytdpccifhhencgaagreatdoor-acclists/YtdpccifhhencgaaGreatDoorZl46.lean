/- Sum and Dot of any lists of patterns: what the program tells and that the document tells it. Sum and Dot of any lists, with the errors in their order: what the program tells and what the document tells; the laws' own first. append(append(nil, x...), y...), for the laws' own lists. -/
import Derived.Test.YtdpccifhhencgaaGreatDoorZl45
import Derived.Test.YtdpccifhhencgaaGreatDoorZl37
import Derived.Test.YtdpccifhhencgaaGreatDoorZl38
namespace Go.Proofs.YtdpccifhhencgaaGreatDoor
open Go.ChangeShapes Go.WideShapes Go.ChangeAt Go.RowKit
set_option linter.unusedVariables false
set_option linter.unusedSimpArgs false
set_option maxHeartbeats 16000000
set_option maxRecDepth 100000
theorem getD_rg {X : List Int} (hR : Rg X) (j : Nat) : -9223372036854775808 ≤ X.getD j 0 ∧ X.getD j 0 ≤ 9223372036854775807 := by
 by_cases h : j < X.length
 ·rw [show X.getD j 0 = X[j] by simp [List.getD, h]]
  exact hR _ (List.getElem_mem h)
 ·rw [show X.getD j 0 = 0 by simp [List.getD]; rw [List.getElem?_eq_none (by omega)]; rfl]
  omega
theorem getD_val {X : List Int} {n : Int} (hL : X.all (val · n) = true) (j : Nat) (h : j < X.length) : val (X.getD j 0) n = true := by
 rw [show X.getD j 0 = X[j] by simp [List.getD, h]]
 exact List.all_eq_true.1 hL _ (List.getElem_mem h)
theorem sl_el {w : World} {ao : Option Addr} {c : Nat} {X : List Int} (h : Sl w (.slice ao X.length c) X) (u : World) (k : Kept w u) (i : Nat) (hi : i < X.length) : ElAt u ao i (X.getD i 0) := sl_cell h u k i hi
theorem sum_full (n : Int) (hn : n = 64 ∨ n = 32) (X : List Int) (hR : Rg X) (hlen : X.length ≤ 65536) (hL : X.all (val · n) = true) : ∃ q : Int,
  (∀ (ao : Option Addr) (c : Nat) (w : World), Tab w → Sl w (.slice ao X.length c) X → Calls Tryz.prog 20 #[.slice ao X.length c, .int .i64 n] w fun e w' => e = .returned (.tuple #[.int .i64 q, .int .i64 0]) ∧ Kept w w') ∧
  (∀ (ao : Option Addr) (c : Nat) (w : World), Sl w (.slice ao X.length c) X → Calls Tryz.prog 49 #[.slice ao X.length c, .int .i64 n] w fun e w' => e = .returned (.int .i64 q) ∧ Kept w w') := by
 obtain ⟨o1, o2, o3⟩ := oneN_ok n hn
 obtain ⟨r, hr⟩ := dn_some (sI (fun j => pvl n (X.getD j 0) (oneN n)) X.length) (sI_big _ (fun j => pvl_lt n _ _ hn (getD_rg hR j).1 (getD_rg hR j).2 o1 o2) _ hlen)
 have hg : (0 : Int) = FE n 0 (vld r) := by rw [hr.vld]; rcases hn with rfl | rfl <;> rfl
 obtain ⟨q, hA, -, hD⟩ := accRound_full n r hr.rg.1 (by have := hr.rg.2; omega) (oI (fun j => fP n (X.getD j 0) (oneN n)) X.length) (oI (fun j => fM n (X.getD j 0) (oneN n)) X.length) (oI (fun j => fN n (X.getD j 0) (oneN n)) X.length) 0 hg
 refine ⟨q, fun ao c w hT h => ?_, fun ao c w h => ?_⟩
 ·refine asum_ok n ao X.length c w r _ _ _ q 0 ?_ (fun u vn va vl vc vx k e1 e2 e3 _ hs => by subst e1 e2 e3; exact hA va vc u (hT.kept k) hs)
  refine total_ok n X hlen ao c w h (oneN n) (fun i => PhiA (sI (fun j => pvl n (X.getD j 0) (oneN n)) i) (oI (fun j => fP n (X.getD j 0) (oneN n)) i) (oI (fun j => fM n (X.getD j 0) (oneN n)) i) (oI (fun j => fN n (X.getD j 0) (oneN n)) i) i) r _ _ _ phi_start (fun p u k hq hcl => ?_) (fun u => fromOne n hn u) (fun b i u fl C lo hi hi2 hM hΦ => ?_) (fun b u fl C lo hi k hM hΦ => ?_)
  ·have := lists_1 n ao X.length c p u hq hcl 0 0 (fun v k2 => look_list n hn [] (by decide) rfl _ v (sl_none v)) (fun v k2 => look_list n hn X (by omega) hL _ v (h.kept (k.trans k2)))
   unfold la1 at this
   rw [if_neg (by simp), if_neg (by omega)] at this
   exact this
  ·exact phi_any n (X.getD i 0) (oneN n) hn (getD_rg hR i).1 (getD_rg hR i).2 o1 o2 (getD_val hL i hi2) o3 _ _ _ _ i (by omega) b u fl C lo hi hM hΦ
  ·exact phi_told n _ _ _ _ X.length hlen b u (hT.kept k) fl C lo hi hM hΦ _ hr.is
 ·exact rsum3 n hn ao X.length c (fun j => X.getD j 0) hlen w (fun j => (getD_rg hR j).1) (fun j => (getD_rg hR j).2) (fun u k i hi => sl_el h u k i hi) r hr q (fun u ao c hl k => by
   obtain ⟨a', c', e', hc, hs, -⟩ := hl
   cases e'
   exact hD rfl ao c u hc hs)
theorem dot_full (n : Int) (hn : n = 64 ∨ n = 32) (X Y : List Int) (hY : Y.length = X.length) (hR : Rg X) (hS : Rg Y) (hlen : X.length ≤ 65536) (hL : X.all (val · n) = true) (hM : Y.all (val · n) = true) : ∃ q : Int,
  (∀ (ao bo : Option Addr) (c d : Nat) (w : World), Tab w → Sl w (.slice ao X.length c) X → Sl w (.slice bo Y.length d) Y → Calls Tryz.prog 21 #[.slice ao X.length c, .slice bo Y.length d, .int .i64 n] w fun e w' => e = .returned (.tuple #[.int .i64 q, .int .i64 0]) ∧ Kept w w') ∧
  (∀ (ao bo : Option Addr) (c d : Nat) (w : World), Sl w (.slice ao X.length c) X → Sl w (.slice bo Y.length d) Y → Calls Tryz.prog 50 #[.slice ao X.length c, .slice bo Y.length d, .int .i64 n] w fun e w' => e = .returned (.int .i64 q) ∧ Kept w w') := by
 obtain ⟨r, hr⟩ := dn_some (sI (fun j => pvl n (X.getD j 0) (Y.getD j 0)) X.length) (sI_big _ (fun j => pvl_lt n _ _ hn (getD_rg hR j).1 (getD_rg hR j).2 (getD_rg hS j).1 (getD_rg hS j).2) _ hlen)
 have hg : (0 : Int) = FE n 0 (vld r) := by rw [hr.vld]; rcases hn with rfl | rfl <;> rfl
 obtain ⟨q, hA, -, hD⟩ := accRound_full n r hr.rg.1 (by have := hr.rg.2; omega) (oI (fun j => fP n (X.getD j 0) (Y.getD j 0)) X.length) (oI (fun j => fM n (X.getD j 0) (Y.getD j 0)) X.length) (oI (fun j => fN n (X.getD j 0) (Y.getD j 0)) X.length) 0 hg
 refine ⟨q, fun ao bo c d w hT h h' => ?_, fun ao bo c d w h h' => ?_⟩
 ·have h2 := h'
  rw [hY] at h'
  rw [hY]
  refine adot_ok n ao bo X.length c X.length d w r _ _ _ q 0 ?_ (fun u vn va vl vc vx k e1 e2 e3 _ hs => by subst e1 e2 e3; exact hA va vc u (hT.kept k) hs)
  refine products_ok n X Y hY hlen ao bo c d w h h2 (fun i => PhiA (sI (fun j => pvl n (X.getD j 0) (Y.getD j 0)) i) (oI (fun j => fP n (X.getD j 0) (Y.getD j 0)) i) (oI (fun j => fM n (X.getD j 0) (Y.getD j 0)) i) (oI (fun j => fN n (X.getD j 0) (Y.getD j 0)) i) i) r _ _ _ phi_start (fun p u k hq hcl hcm => ?_) (fun b i u fl C lo hi hi2 hM' hΦ => ?_) (fun b u fl C lo hi k hM' hΦ => ?_)
  ·have := lists_2 n ao bo X.length c X.length d p u hq hcl hcm 0 0 0 (fun v k2 => look_list n hn [] (by decide) rfl _ v (sl_none v)) (fun v k2 => look_list n hn X (by omega) hL _ v (h.kept (k.trans k2))) (fun v k2 => by have := look_list n hn Y (by omega) hM _ v (h2.kept (k.trans k2)); rw [hY] at this; exact this)
   unfold la2 at this
   rw [if_neg (by simp), if_neg (by simp), if_neg (by omega), if_neg (by simp)] at this
   exact this
  ·exact phi_any n (X.getD i 0) (Y.getD i 0) hn (getD_rg hR i).1 (getD_rg hR i).2 (getD_rg hS i).1 (getD_rg hS i).2 (getD_val hL i hi2) (getD_val hM i (by omega)) _ _ _ _ i (by omega) b u fl C lo hi hM' hΦ
  ·exact phi_told n _ _ _ _ X.length hlen b u (hT.kept k) fl C lo hi hM' hΦ _ hr.is
 ·have he : ∀ u, Kept w u → ∀ i, i < X.length → ElAt u bo i (Y.getD i 0) := fun u k i hi => sl_el h' u k i (by omega)
  rw [hY]
  exact rdot3 n hn ao bo X.length c d (fun j => X.getD j 0) (fun j => Y.getD j 0) hlen w (fun j => (getD_rg hR j).1) (fun j => (getD_rg hR j).2) (fun u k i hi => sl_el h u k i hi) (fun j => (getD_rg hS j).1) (fun j => (getD_rg hS j).2) he r hr q (fun u ao c hl k => by
   obtain ⟨a', c', e', hc, hs, -⟩ := hl
   cases e'
   exact hD rfl ao c u hc hs)
theorem first3_walk (n : Int) (hn : n = 64 ∨ n = 32) (ar : Option Addr) (N cap : Nat) (hN : N < 100000000) (g : Nat → Int) (w : World) (hg1 : ∀ j, -9223372036854775808 ≤ g j) (hg2 : ∀ j, g j ≤ 9223372036854775807) (HG0 : ∀ u, Kept w u → ∀ i, i < N → ElAt u ar i (g i)) (R : Int) (h6 : ∀ j, j < N → val (g j) n = false → R = 6) (h0 : (∀ j, j < N → val (g j) n = true) → R = 0) :
  Calls Tryz.prog 30 #[.int .i64 n, .bool true, .slice ar N cap] w fun e w' => e = .returned (.int .i64 R) ∧ Kept w w' := by
 have HG : Hid (∀ u, Kept w u → ∀ i, i < N → ElAt u ar i (g i)) := HG0
 have H6 : Hid (∀ j, j < N → val (g j) n = false → R = 6) := h6
 have H0 : Hid ((∀ j, j < N → val (g j) n = true) → R = 0) := h0
 have KV : Hid (∀ u i, Calls Tryz.prog 71 #[.int .i64 (g i), .int .i64 n] u fun e w' => e = .returned (.bool (val (g i) n)) ∧ Kept u w') := fun u i => rbvalid_any (g i) n (hg1 i) (hg2 i) u
 clear HG0 h6 h0 hg1 hg2
 have hw : ((n != 32) = false) ∨ ((n != 32) = true ∧ (n != 64) = false) := by rcases hn with rfl | rfl <;> decide
 clear hn
 rcases hw with e1 | ⟨e1, e2⟩
 all_goals
  go_enter Tryz.func30, Tryz.ntmps30
  go_wp2_with fail
  go_loopw [7] (fun ti wr => ∃ (k : Nat), k ≤ N ∧ ti = .int .i64 k ∧ Kept w wr ∧ Hid (∀ j, j < k → val (g j) n = true)) (fun i _ => N - (intOf i).toNat)
  case atStart => exact ⟨0, Nat.zero_le _, rfl, Kept.refl _, fun j hj => absurd hj (Nat.not_lt_zero j)⟩
  case round =>
   obtain ⟨k, hk, rfl, kr, ha⟩ := hrel
   by_cases hkn : k < N
   ·obtain ⟨eb, eo, rfl, hcell⟩ := HG.out _ kr k hkn
    have H6k : Hid (val (g k) n = false → R = 6) := fun h => H6.out k hkn h
    have KVk : Hid (∀ u, Calls Tryz.prog 71 #[.int .i64 (g k), .int .i64 n] u fun e w' => e = .returned (.bool (val (g k) n)) ∧ Kept u w') := fun u => KV.out u k
    have Hnext : Hid (val (g k) n = true → ∀ j, j < k + 1 → val (g j) n = true) := fun h j hj => by
     rcases Nat.lt_succ_iff_lt_or_eq.1 hj with h1 | rfl
     ·exact ha.out j h1
     ·exact h
    clear HG H6 KV H0 ha
    generalize val (g k) n = vv at *
    go_wp2_with fail
    refine (KVk.out _).mono ?_
    rintro e w1 ⟨rfl, k1⟩
    cases vv
    ·obtain rfl := H6k.out rfl
     go_wp2_with fail
     go_ret
     exact ⟨rfl, kr.trans k1⟩
    ·go_wp2_with fail
     go_roundw
     case rel => exact ⟨k + 1, hkn, by go_num, kr.trans k1, Hnext.out (by trivial)⟩
     case measure => simp [intOf]; omega
   ·obtain rfl : k = N := by omega
    obtain rfl := H0.out ha.out
    go_wp2_with fail
    go_ret
    exact ⟨rfl, kr⟩
theorem first3_any (n : Int) (X : List Int) (hR : Rg X) (hl : X.length < 100000000) (ao : Option Addr) (c : Nat) (w : World) (h : Sl w (.slice ao X.length c) X) :
  Calls Tryz.prog 30 #[.int .i64 n, .bool true, .slice ao X.length c] w fun e w' => e = .returned (.int .i64 (lkE n true X)) ∧ Kept w w' := by
 by_cases hn : n = 64 ∨ n = 32
 ·refine first3_walk n hn ao X.length c hl (fun j => X.getD j 0) w (fun j => (getD_rg hR j).1) (fun j => (getD_rg hR j).2) (fun u k i hi => sl_el h u k i hi) _ (fun j hj hv => ?_) (fun ha => ?_)
  ·unfold lkE
   have : ¬ X.all (val · n) = true := fun hL => by
    have h1 := getD_val hL j hj
    rw [hv] at h1
    cases h1
   rw [if_neg (by rcases hn with rfl | rfl <;> decide), if_neg (by decide), if_neg this]
  ·unfold lkE
   have : X.all (val · n) = true := List.all_eq_true.2 (fun x hx => by
    obtain ⟨j, hj, rfl⟩ := List.getElem_of_mem hx
    have h1 := ha j hj
    (try dsimp only at h1)
    rw [show X.getD j 0 = X[j] by simp [List.getD, hj]] at h1
    exact h1)
   rw [if_neg (by rcases hn with rfl | rfl <;> decide), if_neg (by decide), if_pos this]
 ·have e : lkE n true X = 3 := by
   unfold lkE
   rw [if_pos (by simp [val]; omega)]
  rw [e]
  have h1 : (n != 32) = true := by simp; omega
  have h2 : (n != 64) = true := by simp; omega
  go_enter Tryz.func30, Tryz.ntmps30
  go_wp2_with fail
  go_ret
  exact ⟨rfl, Kept.refl _⟩
theorem look_lists (n : Int) (X : List Int) (hl : X.length < 100000000) (pats : Value) (u : World) (hp : Sl u pats X) : Calls Tryz.prog 58 #[.int .i64 n, accZ, pats] u fun e w' => e = .returned (.int .i64 (lkE n true X)) ∧ Kept u w' := by
 have := look_any n false [] 0 (by intro d hd; cases hd) (by decide) none 0 false false false X hl u (sl_none u) pats hp
 rw [show vld ⟨false, [], 0⟩ = true by decide +kernel] at this
 exact this
/- Sum of any list -/
theorem list_sum (n : Int) (X : List Int) (hR : Rg X) (hl : X.length < 100000000) : ∃ q : Int,
  (∀ (ao : Option Addr) (c : Nat) (w : World), Tab w → Sl w (.slice ao X.length c) X → Calls Tryz.prog 20 #[.slice ao X.length c, .int .i64 n] w fun e w' => e = .returned (.tuple #[.int .i64 q, .int .i64 (la1 (lkE n true []) X.length (lkE n true X))]) ∧ Kept w w') ∧ (la1 (lkE n true []) X.length (lkE n true X) ≠ 0 → q = 0) ∧
  (la1 (lkE n true []) X.length (lkE n true X) = 0 → ∀ (ao : Option Addr) (c : Nat) (w : World), Sl w (.slice ao X.length c) X → Calls Tryz.prog 49 #[.slice ao X.length c, .int .i64 n] w fun e w' => e = .returned (.int .i64 q) ∧ Kept w w') := by
 by_cases h0 : la1 (lkE n true []) X.length (lkE n true X) = 0
 ·have hh := h0
  unfold la1 at hh
  have a1 : lkE n true [] = 0 := by
   by_cases hz : lkE n true [] = 0
   ·exact hz
   ·rw [if_pos hz] at hh; exact hh
  rw [if_neg (by simp [a1])] at hh
  have a2 : ¬ 65536 < X.length := fun hb => by rw [if_pos hb] at hh; cases hh
  rw [if_neg a2] at hh
  have hn : n = 64 ∨ n = 32 := by
   unfold lkE at a1
   by_cases hv : val 0 n = false
   ·rw [if_pos hv] at a1; cases a1
   ·simp [val] at hv
    omega
  have hL : X.all (val · n) = true := by
   unfold lkE at hh
   rw [if_neg (by rcases hn with rfl | rfl <;> decide), if_neg (by decide)] at hh
   by_cases hv : X.all (val · n) = true
   ·exact hv
   ·rw [if_neg hv] at hh; cases hh
  obtain ⟨q, hA, hD⟩ := sum_full n hn X hR (by omega) hL
  rw [h0]
  exact ⟨q, hA, fun h => absurd rfl h, fun _ => hD⟩
 ·refine ⟨0, fun ao c w hT h => ?_, fun _ => rfl, fun h => absurd h h0⟩
  exact asum_no n ao X.length c w _ h0 (total_no n ao X.length c w _ h0 (fun p u k hq hcl => lists_1 n ao X.length c p u hq hcl _ _ (fun v k2 => look_lists n [] (by decide) _ v (sl_none v)) (fun v k2 => look_lists n X hl _ v (h.kept (k.trans k2)))))
/- Dot of any two lists -/
theorem list_dot (n : Int) (X Y : List Int) (hR : Rg X) (hS : Rg Y) (hl : X.length < 100000000) (hm : Y.length < 100000000) : ∃ q : Int,
  (∀ (ao bo : Option Addr) (c d : Nat) (w : World), Tab w → Sl w (.slice ao X.length c) X → Sl w (.slice bo Y.length d) Y → Calls Tryz.prog 21 #[.slice ao X.length c, .slice bo Y.length d, .int .i64 n] w fun e w' => e = .returned (.tuple #[.int .i64 q, .int .i64 (la2 (lkE n true []) X.length Y.length (lkE n true X) (lkE n true Y))]) ∧ Kept w w') ∧ (la2 (lkE n true []) X.length Y.length (lkE n true X) (lkE n true Y) ≠ 0 → q = 0) ∧
  (la2 (lkE n true []) X.length Y.length (lkE n true X) (lkE n true Y) = 0 → ∀ (ao bo : Option Addr) (c d : Nat) (w : World), Sl w (.slice ao X.length c) X → Sl w (.slice bo Y.length d) Y → Calls Tryz.prog 50 #[.slice ao X.length c, .slice bo Y.length d, .int .i64 n] w fun e w' => e = .returned (.int .i64 q) ∧ Kept w w') := by
 by_cases h0 : la2 (lkE n true []) X.length Y.length (lkE n true X) (lkE n true Y) = 0
 ·have hh := h0
  unfold la2 at hh
  have a1 : lkE n true [] = 0 := by
   by_cases hz : lkE n true [] = 0
   ·exact hz
   ·rw [if_pos hz] at hh; exact hh
  rw [if_neg (by simp [a1])] at hh
  have a3 : Y.length = X.length := by
   by_cases hz : Y.length = X.length
   ·exact hz
   ·rw [if_pos hz] at hh; cases hh
  rw [if_neg (by simp [a3])] at hh
  have a2 : ¬ 65536 < X.length := fun hb => by rw [if_pos hb] at hh; cases hh
  rw [if_neg a2] at hh
  have hn : n = 64 ∨ n = 32 := by
   unfold lkE at a1
   by_cases hv : val 0 n = false
   ·rw [if_pos hv] at a1; cases a1
   ·simp [val] at hv
    omega
  have all_of : ∀ Z : List Int, lkE n true Z = 0 → Z.all (val · n) = true := fun Z hz => by
   unfold lkE at hz
   rw [if_neg (by rcases hn with rfl | rfl <;> decide), if_neg (by decide)] at hz
   by_cases hv : Z.all (val · n) = true
   ·exact hv
   ·rw [if_neg hv] at hz; cases hz
  have a4 : lkE n true X = 0 := by
   by_cases hz : lkE n true X = 0
   ·exact hz
   ·rw [if_pos hz] at hh; exact hh
  rw [if_neg (by simp [a4])] at hh
  obtain ⟨q, hA, hD⟩ := dot_full n hn X Y a3 hR hS (by omega) (all_of X a4) (all_of Y hh)
  rw [h0]
  exact ⟨q, hA, fun h => absurd rfl h, fun _ => hD⟩
 ·refine ⟨0, fun ao bo c d w hT h h' => ?_, fun _ => rfl, fun h => absurd h h0⟩
  exact adot_no n ao bo X.length c Y.length d w _ h0 (products_no n ao bo X.length c Y.length d w _ h0 (fun p u k hq hcl hcm => lists_2 n ao bo X.length c Y.length d p u hq hcl hcm _ _ _ (fun v k2 => look_lists n [] (by decide) _ v (sl_none v)) (fun v k2 => look_lists n X hl _ v (h.kept (k.trans k2))) (fun v k2 => look_lists n Y hm _ v (h'.kept (k.trans k2)))))
theorem own_lt {w : World} {g cap : Nat} {L : List Int} (h : Own w g cap L) : g < w.heap.size := by
 obtain ⟨B, hB, -⟩ := h
 by_cases hs : g < w.heap.size
 ·exact hs
 ·rw [Array.getElem?_eq_none (by omega)] at hB
  cases hB
theorem app_two (X Y : List Int) (hX : X.length < 40000000) (hY : Y.length < 40000000) (v v' : Value) (w : World) (h : Sl w v X) (h' : Sl w v' Y) : ∃ v1 w1 v2 w2, (∀ ty, (Builtin.append_ #[22, 22] ty #[.slice none 0 0, v]).run Tryz.prog w = .ok v1 w1) ∧ (∀ ty, (Builtin.append_ #[22, 22] ty #[v1, v']).run Tryz.prog w1 = .ok v2 w2) ∧ Kept w w2 ∧ (∃ ao c, v2 = .slice ao (X ++ Y).length c) ∧ Sl w2 v2 (X ++ Y) := by
 obtain ⟨v1, w1, hr1, k1, hrow⟩ := app_nil X (by omega) v w h
 rcases hrow with ⟨rfl, rfl⟩ | ⟨g, cap, rfl, hg, hO⟩
 ·obtain ⟨v2, w2, hr2, k2, hrow2⟩ := app_nil Y (by omega) v' w1 (h'.kept k1)
  refine ⟨_, w1, v2, w2, hr1, hr2, k1.trans k2, ?_, ?_⟩
  ·rcases hrow2 with ⟨rfl, rfl⟩ | ⟨g, cap, rfl, hg, hO⟩
   ·exact ⟨none, 0, rfl⟩
   ·exact ⟨_, _, rfl⟩
  ·rcases hrow2 with ⟨rfl, rfl⟩ | ⟨g, cap, rfl, hg, hO⟩
   ·exact sl_none _
   ·exact hO.sl
 ·obtain ⟨bo, d, rfl, hc, hm, hr⟩ := h'.kept k1
  by_cases hne : Y = []
  ·subst hne
   obtain ⟨i, hi, hz2, hs, hb⟩ := info_parts (int_info)
   rw [List.append_nil]
   refine ⟨_, w1, .slice (some ⟨g, 0, none⟩) X.length cap, w1, hr1, fun ty => run_append_nothing w1 22 22 ty 3 i li_under hi (some ⟨g, 0, none⟩) X.length cap (by obtain ⟨_, _, h1, _⟩ := hO; omega) _ ?_, k1, ⟨_, _, rfl⟩, hO.sl⟩
   cases bo with
   | none => exact Src.ofNil w1 li_under d
   | some a => exact Src.ofSlice w1 li_under a 0 d [] (by simp) (fun j u hu => by simp at hu) (fun u hu => by cases hu)
  ·obtain ⟨b, off, rfl, hb, hr⟩ := hr hne
   have hpos := List.length_pos_iff.2 hne
   obtain ⟨g2, C, w2, hrun, hO2, hk⟩ := app_gen 22 3 li_under (.int .i64 0) 8 int_info (by simp [Value.cells]) (by omega) w1 (.slice (some ⟨g, 0, none⟩) X.length cap) (X.map (Value.int .i64)) (Y.map (Value.int .i64)) (.inr ⟨g, cap, by rw [List.length_map], own_v.1 hO⟩) ⟨b, off, none⟩ Y.length d (by simp) (fun j u hj => by
    rw [List.getElem?_map] at hj
    by_cases hjl : j < Y.length
    ·rw [List.getElem?_eq_getElem hjl] at hj
     cases hj
     have := hr j hjl
     rw [List.getD_eq_getElem?_getD, List.getElem?_eq_getElem hjl] at this
     rw [Addr.add_lit]
     simpa using this
    ·rw [List.getElem?_eq_none (by omega)] at hj
     cases hj) (fun u hu => by obtain ⟨x, -, rfl⟩ := List.mem_map.1 hu; rfl) hpos (by rw [List.length_map]; omega)
   rw [List.length_map] at hrun hk
   have hO3 : Own w2 g2 C (X ++ Y) := own_v.2 (by simpa using hO2)
   have hk2 : Kept w w2 := by
    rcases hk with ⟨-, k⟩ | ⟨e, k⟩
    ·exact k1.trans k
    ·cases e
     exact k1.grw hg k
   refine ⟨_, w1, .slice (some ⟨g2, 0, none⟩) (X.length + Y.length) C, w2, hr1, fun ty => hrun ty, hk2, ⟨_, C, by rw [List.length_append]⟩, ?_⟩
   have := hO3.sl
   rw [List.length_append] at this
   exact this
theorem lkE_app (n : Int) (X Y : List Int) : lkE n true (X ++ Y) = if lkE n true X ≠ 0 then lkE n true X else lkE n true Y := by
 unfold lkE
 rw [List.all_append]
 by_cases h : val 0 n = false
 ·simp [h]
 ·rw [if_neg h, if_neg h, if_neg h]
  simp only [if_neg (show ¬ (true = false) by decide)]
  cases hx : X.all (val · n) <;> simp
end Go.Proofs.YtdpccifhhencgaaGreatDoor
