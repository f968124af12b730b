/- AccLimits: as many floats as there may be, and one more; sums of which a part is too long, or none. How arguments are read: exact numbers, lists of ints; and that they read behind the call as before. -/
import Derived.Test.YtpkeadfndgddlaaDoorZl47
import Derived.Test.YtpkeadfndgddlaaDoorZl07
import Derived.ProofKit
import Derived.OpenShut
import Derived.Carry
import Derived.Lib.SmallJoins
import Derived.ChangeSlices
namespace Go.Proofs.YtpkeadfndgddlaaDoor
open Go.ChangeShapes Go.WideShapes Go.ChangeAt Go.RowKit
set_option linter.unusedVariables false
set_option linter.unusedSimpArgs false
set_option maxHeartbeats 16000000
set_option maxRecDepth 100000
abbrev oneF : Int := 4607182418800017408
theorem pv_two : ∃ k : Nat, k = 2148 ∧ pval 64 oneF oneF = 2 ^ k := pv_pow 64 4607182418800017408 104 (by decide +kernel) (by decide +kernel) (by decide +kernel)
theorem cfm_many (V : Int) (k : Nat) (hk : k = 2148) (hV : V = 2 ^ k) (N : Nat) (hN : N = 65536) : cfm ((N : Int) * V) (-2148) = some ⟨false, [1], 16⟩ := by
 have := cfm_powb (16 + k) (by omega)
 rw [show ((16 + k : Nat) : Int) - 2148 = 16 by omega, Int.pow_add, show (2 : Int) ^ 16 = 65536 by decide] at this
 rw [hV, hN]
 exact this
theorem all_ones (L : List Int) (h : ∀ i, i < L.length → L.getD i 0 = oneF) : L.all (val · 64) = true := all_true 64 L (fun j hj => by rw [h j hj]; decide)
theorem F64 (u : World) : Calls Tryd.prog 8 #[.int .i64 1, .int .i64 64] u fun e w' => e = .returned (.int .i64 oneF) ∧ Kept u w' := (fromOne_64 u).mono (by rintro e w' ⟨rfl, rfl⟩; exact ⟨rfl, Kept.refl _⟩)
theorem sl_one {u : World} {q : Nat} {x : Int} (hq : q < u.heap.size) (h0 : u.cell? ⟨q, 0, none⟩ = some (.int .i64 x)) : Sl u (.slice (some ⟨q, 0, none⟩) 1 1) [x] := by
 refine ⟨some ⟨q, 0, none⟩, 1, rfl, Nat.le_refl _, by simp [maxLen], fun _ => ⟨q, 0, rfl, hq, fun i hi => ?_⟩⟩
 rcases i with _ | i
 ·exact h0
 ·simp at hi
theorem app_last (N : Nat) (hN : N = 65536) (u : World) (b : Nat) (L : List Int) (hL : L.length = N) (hO : Own u b N L) : ∃ g cap w2, (∀ ty, (Builtin.append_ #[23, 23] ty #[.slice (some ⟨b, 0, none⟩) N N, .slice (some ⟨u.heap.size, 0, none⟩) 1 1]).run Tryd.prog (u.alloc (.cells #[.int .i64 oneF] 3)) = .ok (.slice (some ⟨g, 0, none⟩) (N + 1) cap) w2) ∧ Own w2 g cap (L ++ [oneF]) ∧ Kept u w2 := by
 have k0 : Kept u (u.alloc (.cells #[.int .i64 oneF] 3)) := (Kept.refl u).alloc _ _
 have hR : Rw (u.alloc (.cells #[.int .i64 oneF] 3)) (.slice (some ⟨b, 0, none⟩) N N) 3 (L.map (Value.int .i64)) := .inr ⟨b, N, by rw [List.length_map, hL], own_v.1 (hO.kept k0)⟩
 obtain ⟨g, cap, w2, hr, hO2, hk⟩ := app_gen 23 3 li_under (.int .i64 0) 8 int_info (by simp [Value.cells]) (by omega) _ (.slice (some ⟨b, 0, none⟩) N N) (L.map (Value.int .i64)) [.int .i64 oneF] hR ⟨u.heap.size, 0, none⟩ 1 1 rfl (fun j v hj => by
  rcases j with _ | j
  ·cases hj; simp [go_sem]
  ·simp at hj) (fun v hv => by simp at hv; subst hv; rfl) (by omega) (by rw [List.length_map]; omega)
 rw [List.length_map, hL] at hr hk
 refine ⟨g, cap, w2, hr, own_v.2 (by simpa using hO2), ?_⟩
 rcases hk with ⟨-, k⟩ | ⟨e, k⟩
 ·exact k0.trans k
 ·exfalso
  obtain ⟨_, _, h1, _⟩ := hO2
  simp only [Value.slice.injEq] at e
  simp at h1
  omega
theorem accLimits_true (w : World) (hT : Tab w) (s : Int) (s1 : -9223372036854775808 ≤ s) (s2 : s ≤ 9223372036854775807) :
  Calls Tryd.prog 3 #[.int .i64 s] w fun e w' => e = .returned (.bool true) ∧ Kept w w' := by
 have KL : Hid (∀ u, Kept w u → Calls Tryd.prog 4 #[] u fun e w' => e = .returned (.bool true) ∧ Kept u w') := fun u k => alive3 u (hT.kept k)
 by_cases hs : s.tmod 64 = 0
 ·obtain ⟨N, hN⟩ : ∃ N : Nat, N = 65536 := ⟨_, rfl⟩
  obtain ⟨k0, hk0, hV⟩ := pv_two
  have hmk : ∀ u : World, (Instr.makeSlice 23 (.int .i64 65536) (.int .i64 65536)).run Tryd.prog u = .ok (.slice (some ⟨u.heap.size, 0, none⟩) N N) (u.alloc (.cells (madeCells #[.int .i64 0] N) 3)) := fun u => by
   have := make_run N (by omega) u
   rw [show ((N : Nat) : Int) = 65536 by omega] at this
   exact this
  have HO : Hid (∀ u : World, Own (u.alloc (.cells (madeCells #[.int .i64 0] N) 3)) u.heap.size N (List.replicate N 0)) := fun u => own_made N (by omega) u
  have KS : Hid (∀ u b L, Kept w u → L.length = N → (∀ i, i < N → L.getD i 0 = oneF) → Own u b N L → Calls Tryd.prog 5 #[.slice (some ⟨b, 0, none⟩) N N, .int .i64 64] u fun e w' => e = .returned (.tuple #[.int .i64 4679240012837945344, .int .i64 0]) ∧ Kept u w') := fun u b L k hL h1 ho => by
   have := sum_all 64 oneF 4679240012837945344 (.inl rfl) (by decide) (by decide) (by decide +kernel) (2 ^ k0) hV L (by omega) (fun i hi => h1 i (by omega)) (all_ones L (fun i hi => h1 i (by omega))) ⟨false, [1], 16⟩ (by rw [hL]; exact cfm_many _ k0 hk0 rfl N hN) (by decide +kernel) (rg_one 1 (by decide) (by decide)) (by decide) (by decide +kernel) F64 (some ⟨b, 0, none⟩) N u (hT.kept k) ho.sl
   rw [hL] at this
   exact this
  have KD : Hid (∀ u b L, Kept w u → L.length = N → (∀ i, i < N → L.getD i 0 = oneF) → Own u b N L → Calls Tryd.prog 6 #[.slice (some ⟨b, 0, none⟩) N N, .slice (some ⟨b, 0, none⟩) N N, .int .i64 64] u fun e w' => e = .returned (.tuple #[.int .i64 4679240012837945344, .int .i64 0]) ∧ Kept u w') := fun u b L k hL h1 ho => by
   have := dot_all 64 oneF 4679240012837945344 (.inl rfl) (by decide) (by decide) (by decide +kernel) (2 ^ k0) hV L (by omega) (fun i hi => h1 i (by omega)) (all_ones L (fun i hi => h1 i (by omega))) ⟨false, [1], 16⟩ (by rw [hL]; exact cfm_many _ k0 hk0 rfl N hN) (by decide +kernel) (rg_one 1 (by decide) (by decide)) (by decide) (by decide +kernel) (some ⟨b, 0, none⟩) N u (hT.kept k) ho.sl
   rw [hL] at this
   exact this
  have HM : Hid (∀ L : List Int, L.length = N → (∀ i, i < N → L.getD i 0 = oneF) → (L ++ [oneF]).length = N + 1 ∧ (L ++ [oneF]).all (val · 64) = true) := fun L hL h1 => by
   refine ⟨by simp [hL], ?_⟩
   rw [List.all_append, all_ones L (fun i hi => h1 i (by omega))]
   decide
  have KS2 : Hid (∀ u g c L, L.length = N → (∀ i, i < N → L.getD i 0 = oneF) → Own u g c (L ++ [oneF]) → Calls Tryd.prog 5 #[.slice (some ⟨g, 0, none⟩) (N + 1) c, .int .i64 64] u fun e w' => e = .returned (.tuple #[.int .i64 0, .int .i64 2]) ∧ Kept u w') := fun u g c L hL h1 ho => by
   obtain ⟨e1, e2⟩ := HM.out L hL h1
   have := sum_long 64 (.inl rfl) (L ++ [oneF]) (by omega) (by omega) e2 (some ⟨g, 0, none⟩) c u ho.sl
   rw [e1] at this
   exact this
  have KD2 : Hid (∀ u g c L, L.length = N → (∀ i, i < N → L.getD i 0 = oneF) → Own u g c (L ++ [oneF]) → Calls Tryd.prog 6 #[.slice (some ⟨g, 0, none⟩) (N + 1) c, .slice (some ⟨g, 0, none⟩) (N + 1) c, .int .i64 64] u fun e w' => e = .returned (.tuple #[.int .i64 0, .int .i64 2]) ∧ Kept u w') := fun u g c L hL h1 ho => by
   obtain ⟨e1, e2⟩ := HM.out L hL h1
   have := dot_long 64 (.inl rfl) (L ++ [oneF]) (by omega) (by omega) e2 (some ⟨g, 0, none⟩) c u ho.sl
   rw [e1] at this
   exact this
  have KD3 : Hid (∀ u g c b L, L.length = N → (∀ i, i < N → L.getD i 0 = oneF) → Own u g c (L ++ [oneF]) → Own u b N L → Calls Tryd.prog 6 #[.slice (some ⟨g, 0, none⟩) (N + 1) c, .slice (some ⟨b, 0, none⟩) N N, .int .i64 64] u fun e w' => e = .returned (.tuple #[.int .i64 0, .int .i64 1]) ∧ Kept u w') := fun u g c b L hL h1 ho hb => by
   obtain ⟨e1, e2⟩ := HM.out L hL h1
   have := dot_apart 64 (.inl rfl) (L ++ [oneF]) L (by omega) (by omega) (by omega) e2 (all_ones L (fun i hi => h1 i (by omega))) (some ⟨g, 0, none⟩) (some ⟨b, 0, none⟩) c N u ho.sl hb.sl
   rw [e1, hL] at this
   exact this
  have KFar : Hid (∀ u q, Kept w u → q < u.heap.size → u.cell? ⟨q, 0, none⟩ = some (.int .i64 1) → Calls Tryd.prog 7 #[accV false (.slice (some ⟨q, 0, none⟩) 1 1) 70000 false false false, .int .i64 oneF, .int .i64 64] u fun e w' => ∃ un ua ul uc ux, e = .returned (.tuple #[accV un (.slice ua ul uc) ux false false false, .int .i64 2]) ∧ Kept u w') := fun u q k hq h0 => by
   refine (add_far 64 oneF (.inl rfl) (by decide) (by decide) (by decide +kernel) (by decide +kernel) (2 ^ k0) hV (by have := cfm_powb k0 (by omega); rw [show (k0 : Int) - 2148 = 0 by omega] at this; exact this) F64 (some ⟨q, 0, none⟩) 1 u (hT.kept k) (sl_one hq h0)).mono ?_
   rintro e w' ⟨un, ua, ul, uc, ux, rfl, -, k2⟩
   exact ⟨un, ua, ul, uc, ux, rfl, k2⟩
  have KBad : Hid (∀ u q, q < u.heap.size → u.cell? ⟨q, 0, none⟩ = some (.int .i64 2) → Calls Tryd.prog 7 #[accV false (.slice (some ⟨q, 0, none⟩) 1 1) 0 false false false, .int .i64 oneF, .int .i64 64] u fun e w' => ∃ un ua ul uc ux, e = .returned (.tuple #[accV un (.slice ua ul uc) ux false false false, .int .i64 7]) ∧ Kept u w') := fun u q hq h0 => by
   refine (add_bad2 64 oneF (.inl rfl) (by decide +kernel) F64 (some ⟨q, 0, none⟩) 1 u (sl_one hq h0)).mono ?_
   rintro e w' ⟨un, ua, ul, uc, ux, rfl, -, k2⟩
   exact ⟨un, ua, ul, uc, ux, rfl, k2⟩
  have KB : Hid (∀ u, Calls Tryd.prog 8 #[.int .i64 65536, .int .i64 64] u fun e w' => e = .returned (.int .i64 4679240012837945344) ∧ u = w') := fun u => from_big u
  have HAp : Hid (∀ (u : World) (b : Nat) (L : List Int), L.length = N → Own u b N L → ∃ g cap w2, (∀ ty, (Builtin.append_ #[23, 23] ty #[.slice (some ⟨b, 0, none⟩) N N, .slice (some ⟨u.heap.size, 0, none⟩) 1 1]).run Tryd.prog (u.alloc (.cells #[.int .i64 oneF] 3)) = .ok (.slice (some ⟨g, 0, none⟩) (N + 1) cap) w2) ∧ Own w2 g cap (L ++ [oneF]) ∧ Kept u w2) := fun u b L hL hO => app_last N hN u b L hL hO
  have hN0 : N < 100000000 := by omega
  clear hN hk0 hV hT HM
  go_enter Tryd.func3, Tryd.ntmps3
  go_wp2_with fail
  obtain ⟨b, hb⟩ : ∃ b, b = w.heap.size := ⟨_, rfl⟩
  obtain ⟨D, hD⟩ : ∃ D, D = w.alloc (.cells (madeCells #[.int .i64 0] N) 3) := ⟨_, rfl⟩
  have kD : Kept w D := by rw [hD]; exact (Kept.refl w).alloc _ _
  have oD : Own D b N (List.replicate N 0) := by rw [hD, hb]; exact HO.out w
  have hbw : w.heap.size ≤ b := by omega
  rw [← hD, ← hb]
  clear hD hb hmk HO
  go_loopw [5] (fun i wr => ∃ (k : Nat) (L : List Int), k ≤ N ∧ i = .int .i64 k ∧ L.length = N ∧ (∀ j, j < k → L.getD j 0 = oneF) ∧ Own wr b N L ∧ Grw b D wr) (fun i _ => N - (intOf i).toNat)
  case atStart => exact ⟨0, List.replicate N 0, by omega, rfl, by simp, fun j hj => by omega, oD, Grw.refl _ _⟩
  case round =>
   obtain ⟨k, L, hk, rfl, hL, h1, hO, hG⟩ := hrel
   have HO2 : Hid (Own wr b N L) := hO
   have HL : Hid (L.length = N ∧ ∀ j, j < k → L.getD j 0 = oneF) := ⟨hL, h1⟩
   by_cases hkn : k < N
   ·have hcell := hO.cell k (by omega)
    have hfree := hO.free k
    clear hO h1 hL
    go_wp2_with fail
    go_roundw
    case rel =>
     refine ⟨k + 1, L.set k oneF, by omega, by go_num, by rw [List.length_set]; exact HL.out.1, fun j hj => ?_, HO2.out.set k oneF, hG.setCell _ _⟩
     rw [List.getD_eq_getElem?_getD, List.getElem?_set]
     by_cases hjk : k = j
     ·rw [if_pos hjk, if_pos (by rw [HL.out.1]; omega)]
      rfl
     ·rw [if_neg hjk, ← List.getD_eq_getElem?_getD]
      exact HL.out.2 j (by omega)
    case measure => simp [intOf]; omega
   ·obtain rfl : k = N := by omega
    have kw : Kept w wr := kD.grw hbw hG
    clear hO h1 hL oD kD hG
    go_wp2_with fail
    refine (KS.out _ b L kw HL.out.1 HL.out.2 HO2.out).mono ?_
    rintro e u1 ⟨rfl, k1⟩
    go_wp2_with fail
    refine (KD.out _ b L (kw.trans k1) HL.out.1 HL.out.2 (HO2.out.kept k1)).mono ?_
    rintro e u2 ⟨rfl, k2⟩
    replace k2 := k1.trans k2
    have kw2 : Kept w u2 := kw.trans k2
    clear KS KD k1
    obtain ⟨g, cap, u3, hr, hO3, k3⟩ := HAp.out u2 b L HL.out.1 (HO2.out.kept k2)
    have H1 : Hid (∀ ty, (Builtin.append_ #[23, 23] ty #[.slice (some ⟨b, 0, none⟩) k k, .slice (some ⟨u2.heap.size, 0, none⟩) 1 1]).run Tryd.prog (u2.alloc (.cells #[.int .i64 oneF] 3)) = .ok (.slice (some ⟨g, 0, none⟩) (k + 1) cap) u3) := hr
    clear hr HAp
    have HO3 : Hid (Own u3 g cap (L ++ [oneF]) ∧ Own u3 b k L) := ⟨hO3, HO2.out.kept (k2.trans k3)⟩
    have kw3 : Kept w u3 := kw2.trans k3
    clear hO3 HO2 k2
    go_wp2_with (first | (at_builtin; refine wpList_append_run rfl _ _ _ rfl _ _ rfl rfl _ _ (H1.out _) ?_) | (go_at_call 5; refine (KS2.out _ g cap L HL.out.1 HL.out.2 HO3.out.1).mono ?_; rintro e u4 ⟨rfl, k4⟩))
    go_wp2_with fail
    refine (KD2.out _ g cap L HL.out.1 HL.out.2 (HO3.out.1.kept k4)).mono ?_
    rintro e u5 ⟨rfl, k5⟩
    replace k5 := k4.trans k5
    clear k4 KS2 KD2 H1
    go_wp2_with fail
    refine (KD3.out _ g cap b L HL.out.1 HL.out.2 (HO3.out.1.kept k5) (HO3.out.2.kept k5)).mono ?_
    rintro e u6 ⟨rfl, k6⟩
    have kw6 : Kept w u6 := kw3.trans (k5.trans k6)
    clear KD3 HO3 k5 k6 kw3 k3 kw2 kw
    go_wp2_with fail
    refine (KFar.out _ _ ((kw6.alloc _ _).alloc _ _) (by simp <;> omega) (by simp [go_sem])).mono ?_
    rintro e u7 ⟨un, ua, ul, uc, ux, rfl, k7⟩
    have kw7 : Kept w u7 := ((kw6.alloc _ _).alloc _ _).trans k7
    clear KFar k7 kw6
    go_wp2_with fail
    refine (KBad.out _ _ (by simp <;> omega) (by simp [go_sem])).mono ?_
    rintro e u8 ⟨vn, va, vl, vc, vx, rfl, k8⟩
    have kw8 : Kept w u8 := (((kw7.alloc _ _).alloc _ _).alloc _ _).trans k8
    clear KBad k8 kw7
    go_wp2_with fail
    refine (KL.out _ (kw8.alloc _ _)).mono ?_
    rintro e u9 ⟨rfl, k9⟩
    go_wp2_with (first | (go_at_call 8; refine (KB.out _).mono ?_; rintro e u10 ⟨rfl, rfl⟩))
    go_ret
    exact ⟨rfl, (kw8.alloc _ _).trans k9⟩
 ·go_enter Tryd.func3, Tryd.ntmps3
  go_wp2_with fail
  refine (KL.out _ (Kept.refl _)).mono ?_
  rintro e w1 ⟨rfl, k1⟩
  go_wp2_with fail
  go_ret
  exact ⟨rfl, k1⟩
end Go.Proofs.YtpkeadfndgddlaaDoor
namespace Go.Proofs.YtpkeadfndgddlaaDoor
open Go.ChangeShapes Go.WideShapes Go.ChangeAt Go.RowKit Go.Joins
set_option linter.unusedVariables false
set_option linter.unusedSimpArgs false
set_option maxHeartbeats 16000000
set_option maxRecDepth 100000
theorem laid_out : laidOutB Tryd.prog = true := by kernel_rfl
theorem wf_rng (n : Int) (h : (Lit.int .i64 n).wf = true) : -9223372036854775808 ≤ n ∧ n ≤ 9223372036854775807 := by
 have e1 : IntKind.i64.min = -9223372036854775808 := rfl
 have e2 : IntKind.i64.max = 9223372036854775807 := rfl
 simp [Lit.wf] at h
 omega
section
variable {H : Type} {enc : TypeId × Value → H} {W : World}
theorem trodAll_stays {W' : World} {sp : Nat → Bool} : ∀ {ts : List TypeId} {vs : List Value} {ds : List (DataW H)} {p : List MemPlace}, (∀ t ∈ ts, Tryd.prog.readableRec t = true ∧ t < Tryd.prog.types.size) → DataW.TrodAll enc Tryd.prog W 0 (fun _ => true) true ts vs ds p → (∀ x ∈ p, W.sameAt W' x) → (∀ x ∈ p, sp x.block = true) → DataW.TrodAll enc Tryd.prog W' 0 sp true ts vs ds p
 | [], _, _, _, _, h, _, _ => by
  obtain ⟨rfl, rfl, rfl⟩ := trodAll_nil h
  exact trodAll_mk0
 | t :: ts, _, _, _, hr, h, hs, hp => by
  obtain ⟨v, vs1, d, ds1, a, b, rfl, rfl, rfl, h1, h2⟩ := trodAll_cons h
  obtain ⟨r1, r2⟩ := hr t (by simp)
  exact trodAll_cons_mk (WideElems.Trod_stays laid_out r1 r2 h1 (fun x hx => hs x (by simp [hx])) (fun x hx => hp x (by simp [hx]))) (trodAll_stays (fun t' ht' => hr t' (by simp [ht'])) h2 (fun x hx => hs x (by simp [hx])) (fun x hx => hp x (by simp [hx])))
end
end Go.Proofs.YtpkeadfndgddlaaDoor
