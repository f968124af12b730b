/- Sums and products of a list of ones; a list that is too long; sums that are too long, or none. -/
import Derived.Test.YtpkeadfndgddlaaDoorZl45
import Derived.Test.YtpkeadfndgddlaaDoorZl46
namespace Go.Proofs.YtpkeadfndgddlaaDoor
open Go.ChangeShapes Go.WideShapes Go.ChangeAt Go.RowKit
set_option linter.unusedVariables false
set_option linter.unusedSimpArgs false
set_option maxHeartbeats 16000000
set_option maxRecDepth 100000
theorem frm_oneb (x : Int) (h1 : -1000000 ≤ x) (h2 : x ≤ 1000000) : frm false 1 x = some ⟨false, [1], x⟩ := by
 have t : tzn 1 = 0 := tzn_odd _ (by decide)
 have b : bl 1 = 1 := by decide
 have d : digs (1 / 2 ^ 0) = [1] := digs_small 1 (by decide) (by decide)
 have w : wrap64 (x + ((0 : Nat) : Int)) = x := by unfold wrap64; omega
 unfold frm
 rw [t, b, d, w, if_neg (by decide), if_pos ⟨by decide, by omega, by omega⟩]
theorem cfm_powb (k : Nat) (h2 : k ≤ 3000) : cfm (2 ^ k) (-2148) = some ⟨false, [1], (k : Int) - 2148⟩ := by
 have hp : 0 < (2 : Int) ^ k := Int.pow_pos (by decide)
 have e : ((2 : Int) ^ k).natAbs = 1 * 2 ^ k := by rw [Int.natAbs_pow, Nat.one_mul]; rfl
 unfold cfm
 rw [decide_eq_false (by omega), e, frm_shift false 1 k (-2148) (by decide), show (-2148 : Int) + (k : Int) = (k : Int) - 2148 by omega]
 exact frm_oneb _ (by omega) (by omega)
theorem round_at (n bv : Int) (hn : n = 64 ∨ n = 32) (r : Nm) (hv : vld r = true) (rr : Rg r.mag) (lr : r.mag.length < 60000000) (hbv : rzN n 0 r = bv) (u : World) (hT : Tab u) (vn : Bool) (va : Option Addr) (vl vc : Nat) (vx : Int) (e1 : vn = r.neg) (e2 : vl = r.mag.length) (e3 : vx = r.exp) (hs : Sl u (.slice va vl vc) r.mag) : Calls Tryd.prog 11 #[accV vn (.slice va vl vc) vx false false false, .int .i64 n] u fun e w' => e = .returned (.tuple #[.int .i64 bv, .int .i64 0]) ∧ Kept u w' := by
 subst e1 e2 e3
 exact accRound_ok n r.neg va r.mag.length vc r.exp false false false u (nfE (ivn n) (nvn n) (gvn n) false false false).1 false bv 0 (oxN n 0 r) (fun v k => lookA n r rr lr false false false va vc v (hs.kept k) 0 (by rw [hv]; unfold FE; rw [if_pos hn]; rfl)) (fun v k => notFin n hn r.neg va r.mag.length vc r.exp false false false v) (fun v k => by
  have := roundz n 0 hn (.inl rfl) r hv va vc v (hT.kept k) (hs.kept k)
  rw [hbv] at this
  exact this)
theorem sum_all (n one bv : Int) (hn : n = 64 ∨ n = 32) (r1 : -9223372036854775808 ≤ one) (r2 : one ≤ 9223372036854775807) (hc : cls one n < 3) (V : Int) (hp : pval n one one = V) (X : List Int) (hlen : X.length ≤ 65536) (hX : ∀ i, i < X.length → X.getD i 0 = one) (hL : X.all (val · n) = true) (r : Nm) (hV : cfm ((X.length : Int) * V) (-2148) = some r) (hv : vld r = true) (rr : Rg r.mag) (lr : r.mag.length < 60000000) (hbv : rzN n 0 r = bv) (KF : ∀ u, Calls Tryd.prog 8 #[.int .i64 1, .int .i64 n] u fun e w' => e = .returned (.int .i64 one) ∧ Kept u w') (ao : Option Addr) (c : Nat) (w : World) (hT : Tab w) (h : Sl w (.slice ao X.length c) X) :
  Calls Tryd.prog 5 #[.slice ao X.length c, .int .i64 n] w fun e w' => e = .returned (.tuple #[.int .i64 bv, .int .i64 0]) ∧ Kept w w' := by
 have hF := finP_of one n r1 r2 hn hc
 refine asum_ok n ao X.length c w r false false false bv 0 ?_ (fun u vn va vl vc vx k e1 e2 e3 _ hs => round_at n bv hn r hv rr lr hbv u (hT.kept k) vn va vl vc vx e1 e2 e3 hs)
 refine total_ok n X hlen ao c w h one (fun i => PhiA ((i : Int) * V) false false false i) r false false false (by have := phi_start; simpa using this) (fun p u k hq hcl => ?_) KF (fun b i u fl C lo hi hi2 hM hΦ => ?_) (fun b u fl C lo hi k hM hΦ => ?_)
 ·have := lists_1 n ao X.length c p u hq hcl 0 0 (fun v k2 => look_list n hn [] (by decide) rfl _ v (sl_none v)) (fun v k2 => look_list n hn X (by omega) hL _ v (h.kept (k.trans k2)))
  unfold la1 at this
  rw [if_neg (by simp), if_neg (by omega)] at this
  exact this
 ·have := phi_fin n one one hF hF hc hc ((i : Int) * V) false false false i (by omega) b u fl C lo hi hM hΦ
  rw [hp] at this
  rw [hX i hi2, Int.natCast_add, Int.add_mul]
  rw [show ((1 : Nat) : Int) * V = V by rw [show ((1 : Nat) : Int) = 1 from rfl, Int.one_mul]]
  exact this
 ·exact phi_told n _ false false false X.length hlen b u (hT.kept k) fl C lo hi hM hΦ _ hV
theorem dot_all (n one bv : Int) (hn : n = 64 ∨ n = 32) (r1 : -9223372036854775808 ≤ one) (r2 : one ≤ 9223372036854775807) (hc : cls one n < 3) (V : Int) (hp : pval n one one = V) (X : List Int) (hlen : X.length ≤ 65536) (hX : ∀ i, i < X.length → X.getD i 0 = one) (hL : X.all (val · n) = true) (r : Nm) (hV : cfm ((X.length : Int) * V) (-2148) = some r) (hv : vld r = true) (rr : Rg r.mag) (lr : r.mag.length < 60000000) (hbv : rzN n 0 r = bv) (ao : Option Addr) (c : Nat) (w : World) (hT : Tab w) (h : Sl w (.slice ao X.length c) X) :
  Calls Tryd.prog 6 #[.slice ao X.length c, .slice ao X.length c, .int .i64 n] w fun e w' => e = .returned (.tuple #[.int .i64 bv, .int .i64 0]) ∧ Kept w w' := by
 have hF := finP_of one n r1 r2 hn hc
 refine adot_ok n ao ao X.length c X.length c w r false false false bv 0 ?_ (fun u vn va vl vc vx k e1 e2 e3 _ hs => round_at n bv hn r hv rr lr hbv u (hT.kept k) vn va vl vc vx e1 e2 e3 hs)
 refine products_ok n X X rfl hlen ao ao c c w h h (fun i => PhiA ((i : Int) * V) false false false i) r false false false (by have := phi_start; simpa using this) (fun p u k hq hcl hcm => ?_) (fun b i u fl C lo hi hi2 hM hΦ => ?_) (fun b u fl C lo hi k hM hΦ => ?_)
 ·have := lists_2 n ao ao X.length c X.length c p u hq hcl hcm 0 0 0 (fun v k2 => look_list n hn [] (by decide) rfl _ v (sl_none v)) (fun v k2 => look_list n hn X (by omega) hL _ v (h.kept (k.trans k2))) (fun v k2 => look_list n hn X (by omega) hL _ v (h.kept (k.trans k2)))
  unfold la2 at this
  rw [if_neg (by simp), if_neg (by simp), if_neg (by omega), if_neg (by simp)] at this
  exact this
 ·have := phi_fin n one one hF hF hc hc ((i : Int) * V) false false false i (by omega) b u fl C lo hi hM hΦ
  rw [hp] at this
  rw [hX i hi2, Int.natCast_add, Int.add_mul]
  rw [show ((1 : Nat) : Int) * V = V by rw [show ((1 : Nat) : Int) = 1 from rfl, Int.one_mul]]
  exact this
 ·exact phi_told n _ false false false X.length hlen b u (hT.kept k) fl C lo hi hM hΦ _ hV
theorem sum_long (n : Int) (hn : n = 64 ∨ n = 32) (X : List Int) (hlen : 65536 < X.length) (hl2 : X.length < 100000000) (hL : X.all (val · n) = true) (ao : Option Addr) (c : Nat) (w : World) (h : Sl w (.slice ao X.length c) X) :
  Calls Tryd.prog 5 #[.slice ao X.length c, .int .i64 n] w fun e w' => e = .returned (.tuple #[.int .i64 0, .int .i64 2]) ∧ Kept w w' := by
 refine asum_no n ao X.length c w 2 (by decide) (total_no n ao X.length c w 2 (by decide) (fun p u k hq hcl => ?_))
 have := lists_1 n ao X.length c p u hq hcl 0 0 (fun v k2 => look_list n hn [] (by decide) rfl _ v (sl_none v)) (fun v k2 => look_list n hn X hl2 hL _ v (h.kept (k.trans k2)))
 unfold la1 at this
 rw [if_neg (by simp), if_pos hlen] at this
 exact this
theorem dot_long (n : Int) (hn : n = 64 ∨ n = 32) (X : List Int) (hlen : 65536 < X.length) (hl2 : X.length < 100000000) (hL : X.all (val · n) = true) (ao : Option Addr) (c : Nat) (w : World) (h : Sl w (.slice ao X.length c) X) :
  Calls Tryd.prog 6 #[.slice ao X.length c, .slice ao X.length c, .int .i64 n] w fun e w' => e = .returned (.tuple #[.int .i64 0, .int .i64 2]) ∧ Kept w w' := by
 refine adot_no n ao ao X.length c X.length c w 2 (by decide) (products_no n ao ao X.length c X.length c w 2 (by decide) (fun p u k hq hcl hcm => ?_))
 have := lists_2 n ao ao X.length c X.length c p u hq hcl hcm 0 0 0 (fun v k2 => look_list n hn [] (by decide) rfl _ v (sl_none v)) (fun v k2 => look_list n hn X hl2 hL _ v (h.kept (k.trans k2))) (fun v k2 => look_list n hn X hl2 hL _ v (h.kept (k.trans k2)))
 unfold la2 at this
 rw [if_neg (by simp), if_neg (by simp), if_pos hlen] at this
 exact this
theorem dot_apart (n : Int) (hn : n = 64 ∨ n = 32) (X Y : List Int) (hne : Y.length ≠ X.length) (hl2 : X.length < 100000000) (hl3 : Y.length < 100000000) (hL : X.all (val · n) = true) (hM : Y.all (val · n) = true) (ao bo : Option Addr) (c d : Nat) (w : World) (h : Sl w (.slice ao X.length c) X) (h' : Sl w (.slice bo Y.length d) Y) :
  Calls Tryd.prog 6 #[.slice ao X.length c, .slice bo Y.length d, .int .i64 n] w fun e w' => e = .returned (.tuple #[.int .i64 0, .int .i64 1]) ∧ Kept w w' := by
 refine adot_no n ao bo X.length c Y.length d w 1 (by decide) (products_no n ao bo X.length c Y.length d w 1 (by decide) (fun p u k hq hcl hcm => ?_))
 have := lists_2 n ao bo X.length c Y.length d p u hq hcl hcm 0 0 0 (fun v k2 => look_list n hn [] (by decide) rfl _ v (sl_none v)) (fun v k2 => look_list n hn X hl2 hL _ v (h.kept (k.trans k2))) (fun v k2 => look_list n hn Y hl3 hM _ v (h'.kept (k.trans k2)))
 unfold la2 at this
 rw [if_neg (by simp), if_pos hne] at this
 exact this
theorem vld_far : vld ⟨false, [1], 70000⟩ = true := by decide +kernel
theorem vld_bad : vld ⟨false, [2], 0⟩ = false := by decide +kernel
theorem add_far_none : addZ ⟨false, [1], 70000⟩ ⟨false, [1], 0⟩ = none := by
 have e1 : nv [1] = 1 := by decide +kernel
 have e2 : bl 1 = 1 := by decide
 unfold addZ
 rw [if_neg (by simp), if_neg (by simp)]
 unfold addN tp
 dsimp only
 rw [e1, e2, if_neg (by decide)]
theorem rg_one (d : Int) (h1 : -9223372036854775808 ≤ d) (h2 : d ≤ 9223372036854775807) : Rg [d] := by
 intro x hx
 simp at hx
 subst hx
 exact ⟨h1, h2⟩
theorem add_far (n one : Int) (hn : n = 64 ∨ n = 32) (r1 : -9223372036854775808 ≤ one) (r2 : one ≤ 9223372036854775807) (hc : cls one n < 3) (hval : val one n = true) (V : Int) (hp : pval n one one = V) (hV : cfm V (-2148) = some ⟨false, [1], 0⟩) (KF : ∀ u, Calls Tryd.prog 8 #[.int .i64 1, .int .i64 n] u fun e w' => e = .returned (.int .i64 one) ∧ Kept u w') (ao : Option Addr) (c : Nat) (w : World) (hT : Tab w) (h : Sl w (.slice ao 1 c) [1]) :
  Calls Tryd.prog 7 #[accV false (.slice ao 1 c) 70000 false false false, .int .i64 one, .int .i64 n] w fun e w' => ∃ un ua ul uc ux, e = .returned (.tuple #[accV un (.slice ua ul uc) ux false false false, .int .i64 2]) ∧ New w w' (.agg #[.bool un, .slice ua ul uc, .int .i64 ux]) ⟨false, [], 0⟩ ∧ Kept w w' := by
 have hF := finP_of one n r1 r2 hn hc
 have hL : [one, one].all (val · n) = true := by simp [hval]
 refine addOne_ok n one one false ao 1 c 70000 false false false w ⟨false, [], 0⟩ false false false 2 KF (fun u k => ?_)
 refine addProduct_ok n one one false ao 1 c 70000 false false false u (PhiA V false false false 1) ⟨false, [1], 0⟩ ⟨false, [], 0⟩ false false false false false false 2 (fun q v k2 hq h0 h1 => ?_) (fun b v hM => ?_) (fun b v fl C lo hi k2 hM hΦ => phi_told n _ false false false 1 (by decide) b v (hT.kept (k.trans k2)) fl C lo hi hM hΦ _ hV) (fun v vn va vl vc vx k2 e1 e2 e3 e4 hs => ?_)
 ·have := look_any n false [1] 70000 (rg_one 1 (by decide) (by decide)) (by decide) ao c false false false [one, one] (by simp) v (h.kept (k.trans k2)) _ (sl_two hq h0 h1)
  rw [show lkE n (vld ⟨false, [1], 70000⟩) [one, one] = 0 by unfold lkE; rw [vld_far, if_neg (by simp [val, hn] <;> omega), if_neg (by simp), if_pos hL]] at this
  exact this
 ·have := phi_fin n one one hF hF hc hc 0 false false false 0 (by decide) b v acc0 C0 141 0 hM phi_start
  rw [hp, Int.zero_add] at this
  exact this
 ·subst e1 e2 e3
  refine (merge_no false ao 1 c 70000 false false false false va 1 vc 0 false false false v 2 (by decide) (fun t k3 => addz_no t (hT.kept ((k.trans k2).trans k3)) false [1] 70000 vld_far ao c false [1] 0 vld10 va vc (h.kept ((k.trans k2).trans k3)) (hs.kept k3) add_far_none)).mono ?_
  rintro e w' ⟨rfl, k4⟩
  exact ⟨false, none, 0, 0, 0, rfl, .inl ⟨rfl, rfl⟩, k4⟩
theorem add_bad2 (n one : Int) (hn : n = 64 ∨ n = 32) (hval : val one n = true) (KF : ∀ u, Calls Tryd.prog 8 #[.int .i64 1, .int .i64 n] u fun e w' => e = .returned (.int .i64 one) ∧ Kept u w') (ao : Option Addr) (c : Nat) (w : World) (h : Sl w (.slice ao 1 c) [2]) :
  Calls Tryd.prog 7 #[accV false (.slice ao 1 c) 0 false false false, .int .i64 one, .int .i64 n] w fun e w' => ∃ un ua ul uc ux, e = .returned (.tuple #[accV un (.slice ua ul uc) ux false false false, .int .i64 7]) ∧ New w w' (.agg #[.bool un, .slice ua ul uc, .int .i64 ux]) ⟨false, [], 0⟩ ∧ Kept w w' := by
 refine addOne_ok n one one false ao 1 c 0 false false false w ⟨false, [], 0⟩ false false false 7 KF (fun u k => ?_)
 refine (addProduct_no n one one false ao 1 c 0 false false false u 7 (by decide) (fun q v k2 hq h0 h1 => ?_)).mono ?_
 ·have := look_any n false [2] 0 (rg_one 2 (by decide) (by decide)) (by decide) ao c false false false [one, one] (by simp) v (h.kept (k.trans k2)) _ (sl_two hq h0 h1)
  rw [show lkE n (vld ⟨false, [2], 0⟩) [one, one] = 7 by unfold lkE; rw [vld_bad, if_neg (by simp [val, hn] <;> omega), if_pos rfl]] at this
  exact this
 ·rintro e w' ⟨rfl, k4⟩
  exact ⟨false, none, 0, 0, 0, rfl, .inl ⟨rfl, rfl⟩, k4⟩
theorem from_big (w : World) : Calls Tryd.prog 8 #[.int .i64 65536, .int .i64 64] w fun e w' => e = .returned (.int .i64 4679240012837945344) ∧ w = w' := by
 have h1 : floatOfInt .f64 65536 = 4679240012837945344 := by decide +kernel
 have HO : Hid (∀ u, Calls Tryd.prog 15 #[.float .f64 4679240012837945344] u fun e w' => e = .returned (.int .i64 4679240012837945344) ∧ u = w') := fun u => by
  have := of64_any 4679240012837945344 u
  rw [show of64 4679240012837945344 = 4679240012837945344 by decide +kernel] at this
  exact this
 go_enter Tryd.func8, Tryd.ntmps8
 go_wp2_with (first | (go_at_call 15; refine (HO.out _).mono ?_; rintro e w1 ⟨rfl, rfl⟩))
 go_ret
 exact ⟨rfl, rfl⟩
end Go.Proofs.YtpkeadfndgddlaaDoor
