/- AccLists: any two lists, any width. How arguments are read: exact numbers, lists of ints; and that they read behind the call as before. -/
import Derived.Test.YtdpccifhhencgaaGreatDoorZl47
import Derived.Test.YtdpccifhhencgaaGreatDoorZl04
import Derived.ProofKit
import Derived.OpenShut
import Derived.Carry
import Derived.Lib.SmallJoins
import Derived.ChangeSlices
namespace Go.Proofs.YtdpccifhhencgaaGreatDoor
open Go.ChangeShapes Go.WideShapes Go.ChangeAt Go.RowKit
set_option linter.unusedVariables false
set_option linter.unusedSimpArgs false
set_option maxHeartbeats 16000000
set_option maxRecDepth 100000
theorem lists_true (n : Int) (X Y : List Int) (hR : Rg X) (hS : Rg Y) (hl : X.length ≤ 70000) (hm : Y.length ≤ 70000) (ao bo : Option Addr) (c d : Nat) (w : World) (hT : Tab w) (h : Sl w (.slice ao X.length c) X) (h' : Sl w (.slice bo Y.length d) Y) :
  Calls Tryz.prog 15 #[.slice ao X.length c, .slice bo Y.length d, .int .i64 n] w fun e w' => e = .returned (.bool true) ∧ Kept w w' := by
 have lent : ∀ (L : List Int) (po : Option Addr) (k : Nat), L.length ≤ 70000 → Sl w (.slice po L.length k) L → Hid (∀ u, Kept w u → Calls Tryz.prog 48 #[.slice po L.length k] u fun e w' => (∃ g cap, e = .returned (.slice (some ⟨g, 0, none⟩) (L.length + 3) cap) ∧ u.heap.size ≤ g ∧ L.length ≤ cap ∧ Own w' g cap (L ++ [-71, -72, -73])) ∧ Kept u w') := fun L po k hk hs u ku => by
  refine (lent_any L (by omega) po k u (hs.kept ku)).mono ?_
  rintro e w1 ⟨⟨g, cap, rfl, hg, hO⟩, k1⟩
  exact ⟨⟨g, cap, rfl, hg, (by obtain ⟨_, _, h1, _⟩ := hO; simp at h1; omega), hO⟩, k1⟩
 have back : ∀ (L : List Int) (po : Option Addr) (k : Nat), L.length ≤ 70000 → Sl w (.slice po L.length k) L → Hid (∀ (u : World) (b cap : Nat), Kept w u → Own u b cap (L ++ [-71, -72, -73]) → Calls Tryz.prog 29 #[.slice (some ⟨b, 0, none⟩) (L.length + 3) cap, .slice po L.length k] u fun e w' => e = .returned (.bool true) ∧ Grw b u w') := fun L po k hk hs u b cap ku ho => back_any L (by omega) _ b cap u (hs.kept ku) ho
 obtain ⟨s, hS1, hS2, hS3⟩ := list_sum n X hR (by omega)
 obtain ⟨t, hD1, hD2, hD3⟩ := list_dot n X Y hR hS (by omega) (by omega)
 have KS : Hid (∀ (u : World) (b cap : Nat), Kept w u → Own u b cap (X ++ [-71, -72, -73]) → Calls Tryz.prog 20 #[.slice (some ⟨b, 0, none⟩) X.length cap, .int .i64 n] u fun e w' => e = .returned (.tuple #[.int .i64 s, .int .i64 (la1 (lkE n true []) X.length (lkE n true X))]) ∧ Kept u w') := fun u b cap k ho => hS1 _ cap u (hT.kept k) (own_sl X u b cap ho)
 have KD : Hid (∀ (u : World) (b cap b' cap' : Nat), Kept w u → Own u b cap (X ++ [-71, -72, -73]) → Own u b' cap' (Y ++ [-71, -72, -73]) → Calls Tryz.prog 21 #[.slice (some ⟨b, 0, none⟩) X.length cap, .slice (some ⟨b', 0, none⟩) Y.length cap', .int .i64 n] u fun e w' => e = .returned (.tuple #[.int .i64 t, .int .i64 (la2 (lkE n true []) X.length Y.length (lkE n true X) (lkE n true Y))]) ∧ Kept u w') := fun u b cap b' cap' k ho ho' => hD1 _ _ cap cap' u (hT.kept k) (own_sl X u b cap ho) (own_sl Y u b' cap' ho')
 have KF0 : Hid (∀ u, Calls Tryz.prog 30 #[.int .i64 n, .bool true, .slice none 0 0] u fun e w' => e = .returned (.int .i64 (lkE n true [])) ∧ Kept u w') := fun u => first3_any n [] (by intro x hx; cases hx) (by decide) none 0 u (sl_none u)
 have KF1 : Hid (∀ u, Kept w u → Calls Tryz.prog 30 #[.int .i64 n, .bool true, .slice ao X.length c] u fun e w' => e = .returned (.int .i64 (lkE n true X)) ∧ Kept u w') := fun u k => first3_any n X hR (by omega) ao c u (h.kept k)
 have KAP : Hid (∀ u, Kept w u → ∃ v1 u1 v2 u2, Hid (∀ ty, (Builtin.append_ #[22, 22] ty #[.slice none 0 0, .slice ao X.length c]).run Tryz.prog u = .ok v1 u1) ∧ Hid (∀ ty, (Builtin.append_ #[22, 22] ty #[v1, .slice bo Y.length d]).run Tryz.prog u1 = .ok v2 u2) ∧ Kept u u2 ∧ Hid (Calls Tryz.prog 30 #[.int .i64 n, .bool true, v2] u2 fun e w' => e = .returned (.int .i64 (lkE n true (X ++ Y))) ∧ Kept u2 w')) := fun u k => by
  obtain ⟨v1, u1, v2, u2, r1, r2, k2, ⟨po, k3, rfl⟩, hs⟩ := app_two X Y (by omega) (by omega) _ _ u (h.kept k) (h'.kept k)
  exact ⟨v1, u1, _, u2, r1, r2, k2, first3_any n (X ++ Y) (fun x hx => (List.mem_append.1 hx).elim (hR x) (hS x)) (by rw [List.length_append]; omega) po k3 u2 hs⟩
 have KL1 := lent X ao c hl h
 have KL2 := lent Y bo d hm h'
 have KB1 := back X ao c hl h
 have KB2 := back Y bo d hm h'
 have KR1 : la1 (lkE n true []) X.length (lkE n true X) = 0 → Hid (∀ u, Kept w u → Calls Tryz.prog 49 #[.slice ao X.length c, .int .i64 n] u fun e w' => e = .returned (.int .i64 s) ∧ Kept u w') := fun hz u k => hS3 hz ao c u (h.kept k)
 have KR2 : la2 (lkE n true []) X.length Y.length (lkE n true X) (lkE n true Y) = 0 → Hid (∀ u, Kept w u → Calls Tryz.prog 50 #[.slice ao X.length c, .slice bo Y.length d, .int .i64 n] u fun e w' => e = .returned (.int .i64 t) ∧ Kept u w') := fun hz u k => hD3 hz ao bo c d u (h.kept k) (h'.kept k)
 rw [lkE_app] at KAP
 clear lent back hS1 hD1 hS3 hD3 h h' hT
 generalize lkE n true [] = g0 at *
 generalize lkE n true X = f1 at *
 generalize lkE n true Y = f2 at *
 generalize X ++ [-71, -72, -73] = MX at *
 generalize Y ++ [-71, -72, -73] = MY at *
 generalize X.length = N at *
 generalize Y.length = M at *
 unfold la1 at KS hS2 KR1
 unfold la2 at KD hD2 KR2
 by_cases h0 : g0 = 0
 ·subst h0
  simp only [ne_eq, not_true_eq_false, if_false] at KS hS2 KR1 KD hD2 KR2
  by_cases hNM : M = N
  ·subst hNM
   simp only [not_true_eq_false, if_false] at KD hD2 KR2
   have hne : ((M : Int) != (M : Int)) = false := by simp
   by_cases hb : 65536 < M
   ·rw [if_pos hb] at KS hS2 KD hD2
    obtain rfl := hS2 (by decide)
    obtain rfl := hD2 (by decide)
    exact lists_e1 n ao bo M c M d MX MY w hne (by omega) KL1 KL2 KS KD KB1 KB2 KF0
   ·rw [if_neg hb] at KS hS2 KR1 KD hD2 KR2
    by_cases h1 : f1 = 0
    ·simp only [h1, not_true_eq_false, if_false] at KD hD2 KR2 KAP
     by_cases h2 : f2 = 0
     ·exact lists_e2 n s t f1 f2 ao bo M c M d MX MY w hne (by omega) h1 h2 KL1 KL2 KS KD KB1 KB2 KF0 KF1 (by simpa [h1] using KAP) (KR1 h1) (KR2 h2)
     ·obtain rfl := hD2 h2
      exact lists_e3 n s f1 f2 ao bo M c M d MX MY w hne (by omega) h1 (by simpa using h2) KL1 KL2 KS KD KB1 KB2 KF0 KF1 (by simpa [h1] using KAP) (KR1 h1)
    ·rw [if_pos h1] at KD hD2 KAP
     obtain rfl := hS2 h1
     obtain rfl := hD2 h1
     exact lists_e4 n f1 f1 ao bo M c M d MX MY w hne (by omega) (by simpa using h1) (by simpa using h1) KL1 KL2 KS KD KB1 KB2 KF0 KF1 KAP
  ·rw [if_pos hNM] at KD hD2
   obtain rfl := hD2 (by decide)
   have hne : ((N : Int) != (M : Int)) = true := by simp; omega
   by_cases hb : 65536 < N
   ·rw [if_pos hb] at KS hS2
    obtain rfl := hS2 (by decide)
    exact lists_n1 n ao bo N c M d MX MY w hne (by omega) KL1 KL2 KS KD KB1 KB2 KF0
   ·rw [if_neg hb] at KS hS2 KR1
    by_cases h1 : f1 = 0
    ·exact lists_n2 n s f1 ao bo N c M d MX MY w hne (by omega) h1 KL1 KL2 KS KD KB1 KB2 KF0 KF1 (KR1 h1)
    ·obtain rfl := hS2 h1
     exact lists_n3 n f1 ao bo N c M d MX MY w hne (by omega) (by simpa using h1) KL1 KL2 KS KD KB1 KB2 KF0 KF1
 ·rw [if_pos h0] at KS hS2 KD hD2
  obtain rfl := hS2 h0
  obtain rfl := hD2 h0
  by_cases hb : 65536 < N
  ·exact lists_z1 n g0 ao bo N c M d MX MY w (by simpa using h0) (by omega) KL1 KL2 KS KD KB1 KB2 KF0
  ·exact lists_z2 n g0 ao bo N c M d MX MY w (by simpa using h0) (by omega) KL1 KL2 KS KD KB1 KB2 KF0
theorem accLists_true (n : Int) (X Y : List Int) (hR : Rg X) (hS : Rg Y) (ao bo : Option Addr) (c d : Nat) (w : World) (hT : Tab w) (h : Sl w (.slice ao X.length c) X) (h' : Sl w (.slice bo Y.length d) Y) :
  Calls Tryz.prog 6 #[.slice ao X.length c, .slice bo Y.length d, .int .i64 n] w fun e w' => e = .returned (.bool true) ∧ Kept w w' := by
 have KL : Hid (∀ u, Kept w u → Calls Tryz.prog 9 #[] u fun e w' => e = .returned (.bool true) ∧ Kept u w') := fun u k => alive3 u (hT.kept k)
 by_cases h1 : 70000 < X.length
 ·have b1 : (70000 : Int) < (X.length : Int) := by omega
  clear hR hS h h' hT h1
  generalize X.length = N at *
  generalize Y.length = M at *
  go_enter Tryz.func6, Tryz.ntmps6
  go_wp2_with fail
  refine (KL.out _ (Kept.refl _)).mono ?_
  rintro e w1 ⟨rfl, k1⟩
  go_wp2_with fail
  go_ret
  exact ⟨rfl, k1⟩
 by_cases h2 : 70000 < Y.length
 ·have b1 : ¬ (70000 : Int) < (X.length : Int) := by omega
  have b2 : (70000 : Int) < (Y.length : Int) := by omega
  clear hR hS h h' hT h1 h2
  generalize X.length = N at *
  generalize Y.length = M at *
  go_enter Tryz.func6, Tryz.ntmps6
  go_wp2_with fail
  refine (KL.out _ (Kept.refl _)).mono ?_
  rintro e w1 ⟨rfl, k1⟩
  go_wp2_with fail
  go_ret
  exact ⟨rfl, k1⟩
 have b1 : ¬ (70000 : Int) < (X.length : Int) := by omega
 have b2 : ¬ (70000 : Int) < (Y.length : Int) := by omega
 have K1 : Hid (∀ u, Kept w u → Calls Tryz.prog 15 #[.slice ao X.length c, .slice bo Y.length d, .int .i64 n] u fun e w' => e = .returned (.bool true) ∧ Kept u w') := fun u k => lists_true n X Y hR hS (by omega) (by omega) ao bo c d u (hT.kept k) (h.kept k) (h'.kept k)
 have K2 : Hid (∀ u, Kept w u → Calls Tryz.prog 15 #[.slice bo Y.length d, .slice ao X.length c, .int .i64 n] u fun e w' => e = .returned (.bool true) ∧ Kept u w') := fun u k => lists_true n Y X hS hR (by omega) (by omega) bo ao d c u (hT.kept k) (h'.kept k) (h.kept k)
 clear hR hS h h' hT h1 h2
 generalize X.length = N at *
 generalize Y.length = M at *
 go_enter Tryz.func6, Tryz.ntmps6
 go_wp2_with fail
 refine (KL.out _ (Kept.refl _)).mono ?_
 rintro e w1 ⟨rfl, k1⟩
 clear KL
 go_wp2_with fail
 refine (K1.out _ k1).mono ?_
 rintro e w2 ⟨rfl, k2⟩
 clear K1
 replace k1 := k1.trans k2
 go_wp2_with fail
 refine (K2.out _ k1).mono ?_
 rintro e w3 ⟨rfl, k3⟩
 go_wp2_with fail
 go_ret
 exact ⟨rfl, k1.trans k3⟩
end Go.Proofs.YtdpccifhhencgaaGreatDoor
namespace Go.Proofs.YtdpccifhhencgaaGreatDoor
open Go.ChangeShapes Go.WideShapes Go.ChangeAt Go.RowKit Go.Joins
set_option linter.unusedVariables false
set_option linter.unusedSimpArgs false
set_option maxHeartbeats 16000000
set_option maxRecDepth 100000
theorem laid_out : laidOutB Tryz.prog = true := by kernel_rfl
theorem cells_int : Tryz.prog.cellsOf 3 = 1 := by kernel_rfl
theorem wf_rng (n : Int) (h : (Lit.int .i64 n).wf = true) : -9223372036854775808 ≤ n ∧ n ≤ 9223372036854775807 := by
 have e1 : IntKind.i64.min = -9223372036854775808 := rfl
 have e2 : IntKind.i64.max = 9223372036854775807 := rfl
 simp [Lit.wf] at h
 omega
section
variable {H : Type} {enc : TypeId × Value → H} {W : World}
theorem open_lst {fuel : Nat} {cs : List Value} {x : DataW H × List MemPlace} (h : DataW.trod enc Tryz.prog W 0 (fun _ => true) true fuel 22 cs = some x) :
  ∃ (L : List Int) (ar : Option Addr) (cr : Nat), cs = [.slice ar L.length cr] ∧ (ar = none → cr = 0) ∧ Rg L ∧ Sl W (.slice ar L.length cr) L := by
 rcases open_ints Tryz.underlying22 Tryz.underlying3 cells_int h with ⟨rfl, -⟩ | ⟨a, len, cap, zs, rfl, -, hl, hm, hz, -, hcell, hwf⟩
 ·exact ⟨[], none, 0, rfl, fun _ => rfl, fun d hd => (by cases hd), none, 0, rfl, Nat.le_refl _, by simp [maxLen], fun h => absurd rfl h⟩
 ·have hlen : (zs.take len).length = len := by
   rw [List.length_take, hz]
   simp
   omega
  refine ⟨zs.take len, some a, cap, by rw [hlen], fun h => (by cases h), fun d hd => wf_rng d (hwf d (List.mem_of_mem_take hd)), some a, cap, by rw [hlen], by rw [hlen]; exact hl, hm, fun hne => ?_⟩
  have hpos : 0 < len := by
   rcases Nat.eq_zero_or_pos len with h0 | h0
   ·subst h0; simp at hne
   ·exact h0
  have hzl : len ≤ zs.length := by rw [hz]; simp; omega
  have h0 := hcell 0 (by omega)
  have hs := World.cell?_spot h0
  have hb := World.block_lt_of_cell? W _ h0
  obtain ⟨ab, ao, asp⟩ := a
  simp [Addr.add] at hs hb
  subst hs
  refine ⟨ab, ao, rfl, hb, fun i hi => ?_⟩
  rw [hlen] at hi
  have := hcell i (by omega)
  rw [Addr.add_lit] at this
  rw [this, List.getD_eq_getElem?_getD, List.getD_eq_getElem?_getD, List.getElem?_take, if_pos hi]
theorem trodAll_stays {W' : World} {sp : Nat → Bool} : ∀ {ts : List TypeId} {vs : List Value} {ds : List (DataW H)} {p : List MemPlace}, (∀ t ∈ ts, Tryz.prog.readableRec t = true ∧ t < Tryz.prog.types.size) → DataW.TrodAll enc Tryz.prog W 0 (fun _ => true) true ts vs ds p → (∀ x ∈ p, W.sameAt W' x) → (∀ x ∈ p, sp x.block = true) → DataW.TrodAll enc Tryz.prog W' 0 sp true ts vs ds p
 | [], _, _, _, _, h, _, _ => by
  obtain ⟨rfl, rfl, rfl⟩ := trodAll_nil h
  exact trodAll_mk0
 | t :: ts, _, _, _, hr, h, hs, hp => by
  obtain ⟨v, vs1, d, ds1, a, b, rfl, rfl, rfl, h1, h2⟩ := trodAll_cons h
  obtain ⟨r1, r2⟩ := hr t (by simp)
  exact trodAll_cons_mk (WideElems.Trod_stays laid_out r1 r2 h1 (fun x hx => hs x (by simp [hx])) (fun x hx => hp x (by simp [hx]))) (trodAll_stays (fun t' ht' => hr t' (by simp [ht'])) h2 (fun x hx => hs x (by simp [hx])) (fun x hx => hp x (by simp [hx])))
end
end Go.Proofs.YtdpccifhhencgaaGreatDoor
