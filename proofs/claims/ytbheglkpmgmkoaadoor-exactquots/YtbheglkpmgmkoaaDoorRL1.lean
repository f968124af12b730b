/- Calls of the statements on rounding. -/
import Derived.Test.YtbheglkpmgmkoaaDoorRG4
import Derived.Test.YtbheglkpmgmkoaaDoorS11
namespace Go.Proofs.YtbheglkpmgmkoaaDoor
open Go.ChangeShapes Go.WideShapes Go.ChangeAt Go.RowKit
set_option linter.unusedVariables false
set_option linter.unusedSimpArgs false

theorem lay_newc {w0 w : World} {v : Value} {r : Nm} (h : New w0 w v r) : ∃ ao c, v = .agg #[.bool r.neg, .slice ao r.mag.length c, .int .i64 r.exp] ∧ (Sl w (.slice ao r.mag.length c) r.mag ∧ (ao = none → c = 0)) := by
  obtain ⟨s, e, hs⟩ := h.numAt
  rcases h with ⟨rfl, rfl⟩ | ⟨g, cap, rfl, h1, h2, h3⟩
  · have : s = .slice none 0 0 := by
      unfold zeroNum at e
      injection e with e
      simpa using e.symm
    subst this
    exact ⟨none, 0, rfl, hs, fun _ => rfl⟩
  · have : s = .slice (some ⟨g, 0, none⟩) r.mag.length cap := by
      injection e with e
      simpa using e.symm
    subst this
    exact ⟨some ⟨g, 0, none⟩, cap, rfl, hs, fun h => by cases h⟩
set_option maxHeartbeats 1000000 in
set_option maxRecDepth 100000 in
theorem numc_any (n1 : Bool) (L : List Int) (x : Int) (a1 : Option Addr) (c1 : Nat) (hl : L.length ≤ 9223372036854775807) (w : World) (hT : Tab w) (h : Sl w (.slice a1 L.length c1) L) (r : Nm) (hr : frm n1 (nv (msk L (min L.length 20))) (x.tmod 1300) = some r) : Calls Tryd.prog 10 #[.agg #[.bool n1, .slice a1 L.length c1, .int .i64 x]] w fun e w' => ∃ ao c, e = .returned (.agg #[.bool r.neg, .slice ao r.mag.length c, .int .i64 r.exp]) ∧ (Sl w' (.slice ao r.mag.length c) r.mag ∧ (ao = none → c = 0)) ∧ Kept w w' := by
  have KN : Hid (∀ u, Kept w u → Calls Tryd.prog 24 #[.agg #[.bool n1, .slice a1 L.length c1, .int .i64 x], .int .i64 20, .int .i64 1300] u fun e w' => (∃ v, e = .returned v ∧ New u w' v r) ∧ Kept u w') := fun u k => by
    refine Num_walk n1 a1 L.length c1 x _ L rfl _ rfl rfl hl u r (fun u' k' i hi => sl_reads (h.kept k) k' i hi) ?_
    intro H u' lv k' hM
    have hml : (msk L (min L.length 20)).length = min L.length 20 := msk_length L _ (Nat.min_le_left _ _)
    obtain ⟨ao, c, rfl, hc, hs⟩ := hM.sl
    exact make_ok n1 _ (msk_dg L _) (by omega) ao c hc _ r hr u' hs ((hT.kept k).kept k')
  generalize L.length = l at *
  clear h hT hr
  have hK : Kept w ((w.alloc (.cells #[.bool n1, .slice a1 l c1, .int .i64 x] 24)).alloc nilNum) := ((Kept.refl w).alloc _ _).alloc _ _
  obtain ⟨W, hW⟩ : ∃ W, W = ((w.alloc (.cells #[.bool n1, .slice a1 l c1, .int .i64 x] 24)).alloc nilNum) := ⟨_, rfl⟩
  have hWs : W.heap.size = w.heap.size + 2 := by rw [hW]; simp
  have HC : Hid (W.cell? ⟨w.heap.size + 1, 0, none⟩ = some (.bool false) ∧ W.cell? ⟨w.heap.size + 1, 1, none⟩ = some (.slice none 0 0) ∧ W.cell? ⟨w.heap.size + 1, 2, none⟩ = some (.int .i64 0) ∧ ∀ o, W.frozen? ⟨w.heap.size + 1, o, none⟩ = false) := by rw [hW]; exact ⟨by simp [go_sem], by simp [go_sem], by simp [go_sem], fun o => by simp [go_sem]⟩
  rw [← hW] at hK
  go_enter Tryd.func10, Tryd.ntmps10
  go_wp2_with fail
  rw [← hW]
  refine (KN.out _ hK).mono ?_
  rintro e w1 ⟨⟨v, rfl, hN⟩, hk1⟩
  clear hW KN
  obtain ⟨vn, va, vl, vc, vx, rfl⟩ := hN.shape
  have hc := HC.out
  obtain ⟨f0, f1, f2, f3⟩ := res_cells (w.heap.size + 1) (by omega) hk1 hc.1 hc.2.1 hc.2.2.1 hc.2.2.2
  go_wp2
  have := res_done (w.heap.size + 1) (by omega) (by omega) hK hN hk1 (.bool vn) (.slice va vl vc) (.int .i64 vx)
  obtain ⟨ao, c, e, hs⟩ := lay_newc this.1
  refine bodyPost_ret (v := .agg #[.bool vn, .slice va vl vc, .int .i64 vx]) (by simp [results, Tryd.results10, go_sem, f0, f1, f2]) rfl ⟨ao, c, by rw [e], hs, this.2⟩

theorem neg_at (X : World) (hT : Tab X) (a : Nm) (ha : vld a = true) (a1 : Option Addr) (c1 : Nat) (h1 : Sl X (.slice a1 a.mag.length c1) a.mag) (hc : a1 = none → c1 = 0) : Calls Tryd.prog 18 #[.agg #[.bool a.neg, .slice a1 a.mag.length c1, .int .i64 a.exp]] X fun e w' => ∃ ao c, e = .returned (.tuple #[.agg #[.bool (ngv a).neg, .slice ao (ngv a).mag.length c, .int .i64 (ngv a).exp], .int .i64 0]) ∧ Sl w' (.slice ao (ngv a).mag.length c) (ngv a).mag ∧ Kept X w' := by
  have hd := vld_dg a.neg a.mag a.exp ha
  refine (neg_ok a.neg a.mag hd.2.rg (by omega) a1 c1 hc a.exp ha (ngv a) (ngv_frm a ha).1 X h1 hT).mono ?_
  rintro e w' ⟨v, rfl, hN, hk⟩
  obtain ⟨ao, c, rfl, hs⟩ := lay_new hN
  exact ⟨ao, c, rfl, hs, hk⟩
theorem of_at (n k : Int) (hn : n = 64 ∨ n = 32) (h1 : -(ifn n : Int) < k) (h2 : k < (ifn n : Int)) (r : Nm) (hr : ofN (pz n k) n = r) (X : World) (hT : Tab X) : Calls Tryd.prog 15 #[.int .i64 (pz n k), .int .i64 n] X fun e w' => ∃ ao c, e = .returned (.tuple #[.agg #[.bool r.neg, .slice ao r.mag.length c, .int .i64 r.exp], .int .i64 0]) ∧ Sl w' (.slice ao r.mag.length c) r.mag ∧ Kept X w' := by
  obtain ⟨p1, p2⟩ := pz_range n k hn (by omega) (by omega)
  refine (of_fin (pz n k) n p1 p2 hn ((pz_cls n k hn (by omega) (by omega)).2 ⟨h1, h2⟩) X hT).mono ?_
  rintro e w' ⟨v, rfl, hN, hk⟩
  rw [hr] at hN
  obtain ⟨ao, c, rfl, hs⟩ := lay_new hN
  exact ⟨ao, c, rfl, hs, hk⟩
theorem of_inf (n k : Int) (hn : n = 64 ∨ n = 32) (h : k = -(ifn n : Int) ∨ k = (ifn n : Int)) (X : World) : Calls Tryd.prog 15 #[.int .i64 (pz n k), .int .i64 n] X fun e w' => e = .returned (.tuple #[zeroNum, .int .i64 6]) ∧ Kept X w' := by
  have hi := ifn_pos n
  obtain ⟨p1, p2⟩ := pz_range n k hn (by omega) (by omega)
  refine of_bits (pz n k) n p1 p2 hn ?_ X
  have := pz_cls n k hn (by omega) (by omega)
  omega

theorem less_zero (n k : Int) (hn : n = 64 ∨ n = 32) (h1 : -(ifn n : Int) ≤ k) (h2 : k ≤ (ifn n : Int)) (X : World) : Calls Tryd.prog 21 #[.int .i64 (pz n k), .int .i64 0, .int .i64 n] X fun e w' => e = .returned (.bool (decide (k < 0))) ∧ Kept X w' := by
  obtain ⟨p1, p2⟩ := pz_range n k hn h1 h2
  have e0 : pz n 0 = 0 := by rcases hn with rfl | rfl <;> decide
  have hi := ifn_pos n
  have := less_any (pz n k) (pz n 0) n p1 p2 (by rw [e0]; decide) (by rw [e0]; decide) X
  unfold lss at this
  rw [pz_num n k hn h1 h2, pz_num n 0 hn (by omega) (by omega), pz_key n k hn h1 h2, pz_key n 0 hn (by omega) (by omega), e0] at this
  exact this
def ordz (n s Z k : Int) : Int := if k = -(ifn n : Int) then 1 else if k = (ifn n : Int) then -1 else cz Z (kvz n s k)
set_option maxHeartbeats 2000000 in
set_option maxRecDepth 100000 in
theorem order_fin_w (n b : Int) (r q : Nm) (G : Int) (a1 : Option Addr) (c1 : Nat) (X : World) (h1 : Sl X (.slice a1 r.mag.length c1) r.mag)
    (KO : Hid (∀ u, Kept X u → Calls Tryd.prog 15 #[.int .i64 b, .int .i64 n] u fun e w' => ∃ ao c, e = .returned (.tuple #[.agg #[.bool q.neg, .slice ao q.mag.length c, .int .i64 q.exp], .int .i64 0]) ∧ Sl w' (.slice ao q.mag.length c) q.mag ∧ Kept u w'))
    (KC : Hid (∀ u a2 c2, Sl u (.slice a1 r.mag.length c1) r.mag → Sl u (.slice a2 q.mag.length c2) q.mag → Calls Tryd.prog 17 #[.agg #[.bool r.neg, .slice a1 r.mag.length c1, .int .i64 r.exp], .agg #[.bool q.neg, .slice a2 q.mag.length c2, .int .i64 q.exp]] u fun e w' => e = .returned (.tuple #[.int .i64 G, .int .i64 0]) ∧ Kept u w')) :
    Calls Tryd.prog 12 #[.agg #[.bool r.neg, .slice a1 r.mag.length c1, .int .i64 r.exp], .int .i64 b, .int .i64 n] X fun e w' => e = .returned (.int .i64 G) ∧ Kept X w' := by
  have HS : Hid (Sl X (.slice a1 r.mag.length c1) r.mag) := h1
  clear h1
  have hK : Kept X (X.alloc (.cells #[.bool r.neg, .slice a1 r.mag.length c1, .int .i64 r.exp] 24)) := (Kept.refl X).alloc _ _
  have Q : Hid (∀ u, Kept (X.alloc (.cells #[.bool r.neg, .slice a1 r.mag.length c1, .int .i64 r.exp] 24)) u → u.cell? ⟨X.heap.size, 0, none⟩ = some (.bool r.neg) ∧ u.cell? ⟨X.heap.size, 1, none⟩ = some (.slice a1 r.mag.length c1) ∧ u.cell? ⟨X.heap.size, 2, none⟩ = some (.int .i64 r.exp)) := fun u k => ⟨(laid_cell k 0).trans (by simp [go_sem]), (laid_cell k 1).trans (by simp [go_sem]), (laid_cell k 2).trans (by simp [go_sem])⟩
  go_enter Tryd.func12, Tryd.ntmps12
  go_wp2_with fail
  refine (KO.out _ hK).mono ?_
  rintro e w1 ⟨ao, c, rfl, hs, k1⟩
  have k2 : Kept (X.alloc (.cells #[.bool r.neg, .slice a1 r.mag.length c1, .int .i64 r.exp] 24)) (w1.alloc (.cells #[.bool q.neg, .slice ao q.mag.length c, .int .i64 q.exp] 24)) := k1.alloc _ _
  have HS2 : Hid (Sl (w1.alloc (.cells #[.bool q.neg, .slice ao q.mag.length c, .int .i64 q.exp] 24)) (.slice ao q.mag.length c) q.mag) := hs.kept ((Kept.refl w1).alloc _ _)
  have HS1 : Hid (Sl (w1.alloc (.cells #[.bool q.neg, .slice ao q.mag.length c, .int .i64 q.exp] 24)) (.slice a1 r.mag.length c1) r.mag) := HS.out.kept (hK.trans k2)
  clear hs
  obtain ⟨p0, p1, p2⟩ := Q.out _ k2
  go_wp2_with fail
  refine (KC.out _ ao c HS1.out HS2.out).mono ?_
  rintro e w2 ⟨rfl, k3⟩
  go_wp2
  go_ret
  exact ⟨rfl, hK.trans (k2.trans k3)⟩
set_option maxHeartbeats 2000000 in
set_option maxRecDepth 100000 in
theorem order_inf_w (n b : Int) (ls : Bool) (v0 : Value) (X : World) (v1 v2 : Value)
    (KO : Hid (∀ u, Calls Tryd.prog 15 #[.int .i64 b, .int .i64 n] u fun e w' => e = .returned (.tuple #[.agg #[.bool false, .slice none 0 0, .int .i64 0], .int .i64 6]) ∧ Kept u w'))
    (KL : Hid (∀ u, Calls Tryd.prog 21 #[.int .i64 b, .int .i64 0, .int .i64 n] u fun e w' => e = .returned (.bool ls) ∧ Kept u w')) :
    Calls Tryd.prog 12 #[.agg #[v0, v1, v2], .int .i64 b, .int .i64 n] X fun e w' => e = .returned (.int .i64 (if ls = true then 1 else -1)) ∧ Kept X w' := by
  have hK : Kept X (X.alloc (.cells #[v0, v1, v2] 24)) := (Kept.refl X).alloc _ _
  cases ls
  all_goals
    go_enter Tryd.func12, Tryd.ntmps12
    go_wp2_with fail
    refine (KO.out _).mono ?_
    rintro e w1 ⟨rfl, k1⟩
    go_wp2_with fail
    refine (KL.out _).mono ?_
    rintro e w2 ⟨rfl, k2⟩
    go_wp2
    go_ret
    exact ⟨rfl, hK.trans ((k1.alloc _ _).trans k2)⟩
theorem order_at (s n k : Int) (hn : n = 64 ∨ n = 32) (h1 : -(ifn n : Int) ≤ k) (h2 : k ≤ (ifn n : Int)) (hs : s < -1074) (hs2 : -2000 ≤ s) (r : Nm) (hv : vld r = true) (hl : r.mag ≠ [] → s ≤ r.exp) (G : Int) (hG : ordz n s (vz s r) k = G) (a1 : Option Addr) (c1 : Nat) (X : World) (hT : Tab X) (hS : Sl X (.slice a1 r.mag.length c1) r.mag) :
    Calls Tryd.prog 12 #[.agg #[.bool r.neg, .slice a1 r.mag.length c1, .int .i64 r.exp], .int .i64 (pz n k), .int .i64 n] X fun e w' => e = .returned (.int .i64 G) ∧ Kept X w' := by
  have hi := ifn_pos n
  unfold ordz at hG
  by_cases hf : -(ifn n : Int) < k ∧ k < (ifn n : Int)
  · rw [if_neg (by omega), if_neg (by omega)] at hG
    obtain ⟨hL, hZ⟩ := of_key n k hn hf.1 hf.2 s hs hs2
    refine order_fin_w n (pz n k) r (ofN (pz n k) n) G a1 c1 X hS (fun u ku => of_at n k hn hf.1 hf.2 _ rfl u (hT.kept ku)) (fun u a2 c2 g1 g2 => cmp_at s u r (ofN (pz n k) n) hv hL.ok hl hL.low _ _ _ _ g1 g2 G ?_)
    rw [hZ]
    exact hG
  · have hb : k = -(ifn n : Int) ∨ k = (ifn n : Int) := by omega
    have := order_inf_w n (pz n k) (decide (k < 0)) (.bool r.neg) X (.slice a1 r.mag.length c1) (.int .i64 r.exp) (fun u => of_inf n k hn hb u) (fun u => less_zero n k hn h1 h2 u)
    have e : (if decide (k < 0) = true then (1 : Int) else -1) = G := by
      rw [← hG]
      rcases hb with hb | hb
      · rw [decide_eq_true (by omega), if_pos rfl, if_pos hb]
      · rw [decide_eq_false (by omega), if_neg (by decide), if_neg (by omega), if_pos hb]
    rw [e] at this
    exact this
end Go.Proofs.YtbheglkpmgmkoaaDoor
