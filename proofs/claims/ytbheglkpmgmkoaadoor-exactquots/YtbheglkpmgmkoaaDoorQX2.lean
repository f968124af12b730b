/- The statement on quotients. -/
import Derived.Test.YtbheglkpmgmkoaaDoorQX1
namespace Go.Proofs.YtbheglkpmgmkoaaDoor
open Go.ChangeShapes Go.WideShapes Go.ChangeAt Go.RowKit
set_option linter.unusedVariables false
set_option linter.unusedSimpArgs false

set_option maxHeartbeats 4000000 in
set_option maxRecDepth 100000 in
theorem xquot_zero (n pr le fi : Int) (n1 n2 : Bool) (a1 a2 : Option Addr) (l1 c1 l2 c2 : Nat) (x1 x2 : Int) (w : World)
    (KR : Hid (Calls Tryd.prog 38 #[.int .i64 n, .int .i64 0, .slice (some ⟨w.heap.size + 2, 0, none⟩) 2 2] (((w.alloc (.cells #[.bool n1, .slice a1 l1 c1, .int .i64 x1] 24)).alloc (.cells #[.bool n2, .slice a2 l2 c2, .int .i64 x2] 24)).alloc (.cells (pairC n1 (.slice a1 l1 c1) x1 n2 (.slice a2 l2 c2) x2) 24)) fun e w' => e = .returned (.tuple #[.agg #[.int .i64 n, .int .i64 pr, .int .i64 le, .int .i64 fi, .func (.func 98) #[] #[]], .int .i64 0]) ∧ Kept (((w.alloc (.cells #[.bool n1, .slice a1 l1 c1, .int .i64 x1] 24)).alloc (.cells #[.bool n2, .slice a2 l2 c2, .int .i64 x2] 24)).alloc (.cells (pairC n1 (.slice a1 l1 c1) x1 n2 (.slice a2 l2 c2) x2) 24)) w'))
    (KG : Hid (∀ u, Kept w u → Calls Tryd.prog 50 #[.agg #[.bool n2, .slice a2 l2 c2, .int .i64 x2]] u fun e w' => e = .returned (.int .i64 0) ∧ Kept u w')) :
    Calls Tryd.prog 22 #[.agg #[.bool n1, .slice a1 l1 c1, .int .i64 x1], .agg #[.bool n2, .slice a2 l2 c2, .int .i64 x2], .int .i64 n, .int .i64 0] w fun e w' => e = .returned (.tuple #[.int .i64 0, .bool false, .int .i64 8]) ∧ Kept w w' := by
  have hK : Kept w (((w.alloc (.cells #[.bool n1, .slice a1 l1 c1, .int .i64 x1] 24)).alloc (.cells #[.bool n2, .slice a2 l2 c2, .int .i64 x2] 24)).alloc (.cells (pairC n1 (.slice a1 l1 c1) x1 n2 (.slice a2 l2 c2) x2) 24)) := (((Kept.refl w).alloc _ _).alloc _ _).alloc _ _
  go_enter Tryd.func22, Tryd.ntmps22
  go_wp2_with fail
  refine KR.out.mono ?_
  rintro e w1 ⟨rfl, hk1⟩
  have HS : Hid (∀ u, Kept (w1.alloc (.cells #[.int .i64 n, .int .i64 pr, .int .i64 le, .int .i64 fi, .func (.func 98) #[] #[]] 62)) u → u.cell? ⟨w1.heap.size, 0, none⟩ = some (.int .i64 n) ∧ u.cell? ⟨w1.heap.size, 1, none⟩ = some (.int .i64 pr) ∧ u.cell? ⟨w1.heap.size, 2, none⟩ = some (.int .i64 le) ∧ u.cell? ⟨w1.heap.size, 3, none⟩ = some (.int .i64 fi) ∧ u.cell? ⟨w1.heap.size, 4, none⟩ = some (.func (.func 98) #[] #[]) ∧ u.cell? ⟨w.heap.size, 0, none⟩ = some (.bool n1) ∧ u.cell? ⟨w.heap.size, 1, none⟩ = some (.slice a1 l1 c1) ∧ u.cell? ⟨w.heap.size, 2, none⟩ = some (.int .i64 x1) ∧ u.cell? ⟨w.heap.size + 1, 0, none⟩ = some (.bool n2) ∧ u.cell? ⟨w.heap.size + 1, 1, none⟩ = some (.slice a2 l2 c2) ∧ u.cell? ⟨w.heap.size + 1, 2, none⟩ = some (.int .i64 x2)) := fun u k => ⟨(laid_cell k 0).trans (by simp [go_sem]), (laid_cell k 1).trans (by simp [go_sem]), (laid_cell k 2).trans (by simp [go_sem]), (laid_cell k 3).trans (by simp [go_sem]), (laid_cell k 4).trans (by simp [go_sem]), ((hk1.trans ((Kept.refl w1).alloc _ _ |>.trans k)).below.cell (p := ⟨w.heap.size, 0, none⟩) (by simp <;> omega)).trans (by simp [go_sem]), ((hk1.trans ((Kept.refl w1).alloc _ _ |>.trans k)).below.cell (p := ⟨w.heap.size, 1, none⟩) (by simp <;> omega)).trans (by simp [go_sem]), ((hk1.trans ((Kept.refl w1).alloc _ _ |>.trans k)).below.cell (p := ⟨w.heap.size, 2, none⟩) (by simp <;> omega)).trans (by simp [go_sem]), ((hk1.trans ((Kept.refl w1).alloc _ _ |>.trans k)).below.cell (p := ⟨w.heap.size + 1, 0, none⟩) (by simp <;> omega)).trans (by simp [go_sem]), ((hk1.trans ((Kept.refl w1).alloc _ _ |>.trans k)).below.cell (p := ⟨w.heap.size + 1, 1, none⟩) (by simp <;> omega)).trans (by simp [go_sem]), ((hk1.trans ((Kept.refl w1).alloc _ _ |>.trans k)).below.cell (p := ⟨w.heap.size + 1, 2, none⟩) (by simp <;> omega)).trans (by simp [go_sem])⟩
  have hsz : w.heap.size + 3 ≤ w1.heap.size := by have := hk1.below.size; simpa using this
  obtain ⟨q0, q1, q2, q3, q4, q5, q6, q7, q8, q9, qq⟩ := HS.out _ (Kept.refl _)
  go_wp2_with fail
  refine (KG.out _ (hK.trans (hk1.alloc _ _))).mono ?_
  rintro e w2 ⟨rfl, hk2⟩
  go_wp2
  refine bodyPost_ret (v := .tuple #[.int .i64 0, .bool false, .int .i64 8]) (by simp [results, Tryd.results22, go_sem]) rfl ⟨rfl, hK.trans (hk1.trans (((Kept.refl w1).alloc _ _).trans hk2))⟩
theorem quotz_zero (n : Int) (hn : n = 64 ∨ n = 32) (a b : Nm) (ha : vld a = true) (hb : vld b = true) (hbm : b.mag = []) (a1 a2 : Option Addr) (c1 c2 : Nat) (w : World) (h1 : Sl w (.slice a1 a.mag.length c1) a.mag) (h2 : Sl w (.slice a2 b.mag.length c2) b.mag) : Calls Tryd.prog 22 #[.agg #[.bool a.neg, .slice a1 a.mag.length c1, .int .i64 a.exp], .agg #[.bool b.neg, .slice a2 b.mag.length c2, .int .i64 b.exp], .int .i64 n, .int .i64 0] w fun e w' => e = .returned (.tuple #[.int .i64 0, .bool false, .int .i64 8]) ∧ Kept w w' := by
  obtain ⟨hlen1, hDg1⟩ := vld_dg a.neg a.mag a.exp ha
  obtain ⟨hlen2, hDg2⟩ := vld_dg b.neg b.mag b.exp hb
  have KRr : ∀ (a1 a2 : Option Addr) (c1 c2 : Nat) (w : World), Sl w (.slice a1 a.mag.length c1) a.mag → Sl w (.slice a2 b.mag.length c2) b.mag → Hid (Calls Tryd.prog 38 #[.int .i64 n, .int .i64 0, .slice (some ⟨w.heap.size + 2, 0, none⟩) 2 2] (((w.alloc (.cells #[.bool a.neg, .slice a1 a.mag.length c1, .int .i64 a.exp] 24)).alloc (.cells #[.bool b.neg, .slice a2 b.mag.length c2, .int .i64 b.exp] 24)).alloc (.cells (pairC a.neg (.slice a1 a.mag.length c1) a.exp b.neg (.slice a2 b.mag.length c2) b.exp) 24)) fun e w' => e = .returned (.tuple #[.agg #[.int .i64 n, .int .i64 (kprec n), .int .i64 (kleast n), .int .i64 (kinf n), .func (.func 98) #[] #[]], .int .i64 0]) ∧ Kept (((w.alloc (.cells #[.bool a.neg, .slice a1 a.mag.length c1, .int .i64 a.exp] 24)).alloc (.cells #[.bool b.neg, .slice a2 b.mag.length c2, .int .i64 b.exp] 24)).alloc (.cells (pairC a.neg (.slice a1 a.mag.length c1) a.exp b.neg (.slice a2 b.mag.length c2) b.exp) 24)) w') := fun a1 a2 c1 c2 w h1 h2 => by
    refine roundingOf_0 n (kprec n) (kleast n) (kinf n) (fun u => kindOf_ok n hn u) _ _ (fun u k => ?_)
    have hK : Kept w (((w.alloc (.cells #[.bool a.neg, .slice a1 a.mag.length c1, .int .i64 a.exp] 24)).alloc (.cells #[.bool b.neg, .slice a2 b.mag.length c2, .int .i64 b.exp] 24)).alloc (.cells (pairC a.neg (.slice a1 a.mag.length c1) a.exp b.neg (.slice a2 b.mag.length c2) b.exp) 24)) := (((Kept.refl w).alloc _ _).alloc _ _).alloc _ _
    have hb' : w.heap.size + 2 < (((w.alloc (.cells #[.bool a.neg, .slice a1 a.mag.length c1, .int .i64 a.exp] 24)).alloc (.cells #[.bool b.neg, .slice a2 b.mag.length c2, .int .i64 b.exp] 24)).alloc (.cells (pairC a.neg (.slice a1 a.mag.length c1) a.exp b.neg (.slice a2 b.mag.length c2) b.exp) 24)).heap.size := by simp
    have := allValid_2 u (w.heap.size + 2) 2 a.neg b.neg a1 a2 a.mag.length c1 b.mag.length c2 a.exp b.exp true true (Nat.lt_of_lt_of_le hb' k.below.size) ((k.below.cell (p := ⟨w.heap.size + 2, 0, none⟩) hb').trans (by simp [go_sem])) ((k.below.cell (p := ⟨w.heap.size + 2, 1, none⟩) hb').trans (by simp [go_sem])) ((k.below.cell (p := ⟨w.heap.size + 2, 2, none⟩) hb').trans (by simp [go_sem])) ((k.below.cell (p := ⟨w.heap.size + 2, 3, none⟩) hb').trans (by simp [go_sem])) ((k.below.cell (p := ⟨w.heap.size + 2, 4, none⟩) hb').trans (by simp [go_sem])) ((k.below.cell (p := ⟨w.heap.size + 2, 5, none⟩) hb').trans (by simp [go_sem])) (fun v kv => ?_) (fun v kv => ?_)
    · exact this
    · have := xvalid_any a hDg1.rg (by omega) (.agg #[.bool a.neg, .slice a1 a.mag.length c1, .int .i64 a.exp]) v ⟨_, rfl, ((h1.kept hK).kept k).kept kv⟩
      rw [ha] at this
      exact this
    · have := xvalid_any b hDg2.rg (by omega) (.agg #[.bool b.neg, .slice a2 b.mag.length c2, .int .i64 b.exp]) v ⟨_, rfl, ((h2.kept hK).kept k).kept kv⟩
      rw [hb] at this
      exact this
  refine xquot_zero n _ _ _ a.neg b.neg a1 a2 a.mag.length c1 b.mag.length c2 a.exp b.exp w (KRr a1 a2 c1 c2 w h1 h2) (fun u _ => ?_)
  have := signOf_any b.neg a2 b.mag.length c2 b.exp u
  rw [if_pos (by rw [hbm]; rfl)] at this
  exact this
theorem frm_small (K : Nat) (hK : K = 20) (n : Bool) (v : Nat) (y : Int) (r : Nm) (h : frm n v y = some r) (hv : v < 2 ^ (30 * K)) (hne : r.mag ≠ []) : r.mag.length ≤ 20 ∧ bl (nv r.mag) ≤ 600 := by
  unfold frm at h
  by_cases h0 : v = 0
  · rw [if_pos h0] at h
    injection h with h
    rw [← h] at hne
    exact absurd rfl hne
  · rw [if_neg h0] at h
    split at h
    · injection h with h
      have hm : r.mag = digs (v / 2 ^ tzn v) := by rw [← h]
      have hle : v / 2 ^ tzn v < 2 ^ (30 * K) := Nat.lt_of_le_of_lt (Nat.div_le_self _ _) hv
      rw [hm, nv_digs]
      have g1 := digs_length_le _ K hle
      have g2 := bl_le _ _ hle
      exact ⟨by omega, by omega⟩
    · cases h
theorem mul2_lies (s : Int) (h1 : -10000 ≤ s) (h2 : s ≤ 0) (B : Nat) (hB : B ≤ 10000) (a b : Nm) (la : Lies s B a) (lb : Lies s B b) : ∃ r, mulN a b = some r ∧ vld r = true ∧ (r.mag ≠ [] → s + s ≤ r.exp) ∧ vz (s + s) r = vz s a * vz s b := by
  obtain ⟨r, e, l, v⟩ := cfm_lies (s + s) (B + B) (by omega) (by omega) (by omega) (vz s a * vz s b) (abs_mul_lt _ _ _ _ la.lt lb.lt)
  exact ⟨r, by rw [mul_cfm s B (by omega) (by omega) h2 a b la lb]; exact e, l.ok, l.low, v⟩
theorem nxt_pz (n d : Int) (hn : n = 64 ∨ n = 32) (h1 : -(ifn n : Int) ≤ d) (h2 : d < (ifn n : Int)) (h3 : d ≠ -1) : nxt (pz n d) n = pz n (d + 1) := by
  unfold nxt
  rw [if_pos (pz_num n d hn h1 (by omega))]
  rcases hn with rfl | rfl
  · rw [if_pos rfl]
    simp only [pz, ifn, reduceIte] at *
    (repeat' split) <;> omega
  · rw [if_neg (show ¬ ((32 : Int) = 64) by decide)]
    simp only [pz, ifn, show ¬ ((32 : Int) = 64) by decide, if_false] at *
    (repeat' split) <;> omega
theorem of_next (n d : Int) (hn : n = 64 ∨ n = 32) (h1 : -(ifn n : Int) ≤ d) (h2 : d + 1 < (ifn n : Int)) (X : World) (hT : Tab X) : Calls Tryd.prog 15 #[.int .i64 (nxt (pz n d) n), .int .i64 n] X fun e w' => ∃ ao c, e = .returned (.tuple #[.agg #[.bool (ofN (pz n (d + 1)) n).neg, .slice ao (ofN (pz n (d + 1)) n).mag.length c, .int .i64 (ofN (pz n (d + 1)) n).exp], .int .i64 0]) ∧ Sl w' (.slice ao (ofN (pz n (d + 1)) n).mag.length c) (ofN (pz n (d + 1)) n).mag ∧ Kept X w' := by
  by_cases h3 : d = -1
  · subst h3
    have e1 : ofN (nxt (pz n (-1)) n) n = ofN (pz n (-1 + 1)) n := by
      have a1 : pmag (nxt (pz n (-1)) n) n = 0 := by rcases hn with rfl | rfl <;> decide
      have a2 : pmag (pz n (-1 + 1)) n = 0 := by rcases hn with rfl | rfl <;> decide
      rw [(of_zero _ _ a1).2, (of_zero _ _ a2).2]
    refine (of_fin (nxt (pz n (-1)) n) n (by rcases hn with rfl | rfl <;> decide) (by rcases hn with rfl | rfl <;> decide) hn (by rcases hn with rfl | rfl <;> decide) X hT).mono ?_
    rintro e w' ⟨v, rfl, hN, hk⟩
    rw [e1] at hN
    obtain ⟨ao, c, rfl, hs⟩ := lay_new hN
    exact ⟨ao, c, rfl, hs, hk⟩
  · rw [nxt_pz n d hn h1 (by omega) h3]
    exact of_at n (d + 1) hn (by omega) h2 _ rfl X hT
theorem exactQuots_true (w : World) (hT : Tab w) (n1 : Bool) (L1 : List Int) (x1 : Int) (a1 : Option Addr) (c1 : Nat) (h1 : Sl w (.slice a1 L1.length c1) L1) (n2 : Bool) (L2 : List Int) (x2 : Int) (a2 : Option Addr) (c2 : Nat) (h2 : Sl w (.slice a2 L2.length c2) L2) (v : Int) :
    Calls Tryd.prog 6 #[.agg #[.bool n1, .slice a1 L1.length c1, .int .i64 x1], .agg #[.bool n2, .slice a2 L2.length c2, .int .i64 x2], .int .i64 v] w fun e w' => e = .returned (.bool true) ∧ Kept w w' := by
  obtain ⟨rA, eA, lA⟩ := num_got n1 L1 x1
  obtain ⟨rB, eB, lB⟩ := num_got n2 L2 x2
  obtain ⟨b1, b2, n, y1, y2, y3, hn⟩ := width_of v
  have hip := ifn_pos n
  have hv0 : vld ⟨false, rB.mag, rB.exp⟩ = true := by
    have hv := lB.ok
    unfold vld at hv ⊢
    dsimp only
    by_cases hm : rB.mag = []
    · rw [if_pos hm] at hv ⊢
      simp only [Bool.and_eq_true] at hv ⊢
      exact ⟨by rfl, hv.2⟩
    · rw [if_neg hm] at hv ⊢
      exact hv
  by_cases hbz : rB.mag = []
  · exact quots_zero w hT ⟨n1, L1, x1⟩ a1 c1 (sl_len h1) h1 rA eA ⟨n2, L2, x2⟩ a2 c2 (sl_len h2) h2 rB eB v n b1 b2 y1 y2 y3 (by rw [hbz]; rfl) (fun X p1 e1 p2 e2 _ g1 g2 => quotz_zero n hn rA ⟨false, rB.mag, rB.exp⟩ lA.ok hv0 hbz p1 p2 e1 e2 X g1 g2)
  · have lB0 : Lies (-1300) 3200 ⟨false, rB.mag, rB.exp⟩ := ⟨hv0, lB.low, by have := lB.lt; rw [vz_abs] at this ⊢; exact this⟩
    have hml : (msk L2 (min L2.length 20)).length = min L2.length 20 := msk_length L2 _ (Nat.min_le_left _ _)
    have hvl := nv_lt (msk L2 (min L2.length 20)) (msk_dg L2 _)
    rw [hml] at hvl
    obtain ⟨K, hK⟩ : ∃ K : Nat, K = 20 := ⟨_, rfl⟩
    obtain ⟨g20, g600⟩ := frm_small K hK _ _ _ _ eB (Nat.lt_of_lt_of_le hvl (Nat.pow_le_pow_right (by decide) (by omega))) hbz
    obtain ⟨d, o, D, KR⟩ := quotz_down n hn rA ⟨false, rB.mag, rB.exp⟩ lA lB0 rfl hbz g20 g600
    have hbl : ¬ rB.mag.length = 0 := fun h => hbz (List.length_eq_zero_iff.1 h)
    have dl := D.low
    have dh := D.high
    have R1 : Hid (∀ X p1 e1 p2 e2, Tab X → Sl X (.slice p1 rA.mag.length e1) rA.mag → Sl X (.slice p2 rB.mag.length e2) rB.mag → Calls Tryd.prog 22 #[.agg #[.bool rA.neg, .slice p1 rA.mag.length e1, .int .i64 rA.exp], .agg #[.bool false, .slice p2 rB.mag.length e2, .int .i64 rB.exp], .int .i64 n, .int .i64 1] X fun e w' => e = .returned (.tuple #[.int .i64 (pz n d), .bool o, .int .i64 0]) ∧ Kept X w') := fun X p1 e1 p2 e2 hT g1 g2 => KR p1 p2 e1 e2 X hT g1 g2
    have KX : Hid (∀ X, Calls Tryd.prog 14 #[.int .i64 (pz n d), .int .i64 n] X fun e w' => e = .returned (.int .i64 (nxt (pz n d) n)) ∧ Kept X w') := fun X => next_any (pz n d) n (pz_range n d hn dl (by omega)).1 (pz_range n d hn dl (by omega)).2 X
    have lB5 := lB0.mono (show 3200 ≤ 5000 by decide)
    have lowA : rA.mag ≠ [] → (-1300 + -1300 : Int) ≤ rA.exp := fun hm => by have := lA.low hm; omega
    have MM : ∀ k, -(ifn n : Int) < k → k < (ifn n : Int) → ∃ q, vld q = true ∧ (q.mag ≠ [] → (-1300 + -1300 : Int) ≤ q.exp) ∧ vz (-1300 + -1300) q = kvz n (-1300) k * vz (-1300) ⟨false, rB.mag, rB.exp⟩ ∧ Hid (∀ X p1 e1 p2 e2, Tab X → Sl X (.slice p1 (ofN (pz n k) n).mag.length e1) (ofN (pz n k) n).mag → Sl X (.slice p2 rB.mag.length e2) rB.mag → Calls Tryd.prog 23 #[.agg #[.bool (ofN (pz n k) n).neg, .slice p1 (ofN (pz n k) n).mag.length e1, .int .i64 (ofN (pz n k) n).exp], .agg #[.bool false, .slice p2 rB.mag.length e2, .int .i64 rB.exp]] X fun e w' => ∃ ao c, e = .returned (.tuple #[.agg #[.bool q.neg, .slice ao q.mag.length c, .int .i64 q.exp], .int .i64 0]) ∧ Sl w' (.slice ao q.mag.length c) q.mag ∧ Kept X w') := fun k k1 k2 => by
      obtain ⟨lP, vP⟩ := of_key n k hn k1 k2 (-1300) (by decide) (by decide)
      obtain ⟨q, sq, okq, lowq, vq⟩ := mul2_lies (-1300) (by decide) (by decide) 5000 (by decide) _ _ lP lB5
      rw [vP] at vq
      exact ⟨q, okq, lowq, vq, fun X p1 e1 p2 e2 hT g1 g2 => mul_at X hT (ofN (pz n k) n) ⟨false, rB.mag, rB.exp⟩ q lP.ok hv0 p1 p2 e1 e2 g1 g2 sq⟩
    have CC : ∀ (q : Nm) G, vld q = true → (q.mag ≠ [] → (-1300 + -1300 : Int) ≤ q.exp) → cz (vz (-1300 + -1300) q) (vz (-1300 + -1300) rA) = G → Hid (∀ X p1 e1 p2 e2, Sl X (.slice p1 q.mag.length e1) q.mag → Sl X (.slice p2 rA.mag.length e2) rA.mag → Calls Tryd.prog 17 #[.agg #[.bool q.neg, .slice p1 q.mag.length e1, .int .i64 q.exp], .agg #[.bool rA.neg, .slice p2 rA.mag.length e2, .int .i64 rA.exp]] X fun e w' => e = .returned (.tuple #[.int .i64 G, .int .i64 0]) ∧ Kept X w') := fun q G hq hlq hG X p1 e1 p2 e2 g1 g2 => cmp_at (-1300 + -1300) X q rA hq lA.ok hlq lowA p1 p2 e1 e2 g1 g2 G hG
    have ez : vz (-1300 + -1300) rA = vz (-2600) rA := rfl
    by_cases hd1 : d = -(ifn n : Int)
    · have hif : 1 < ifn n := by unfold ifn; split <;> decide
      have F1 : Hid (∀ X, Tab X → Calls Tryd.prog 15 #[.int .i64 (pz n d), .int .i64 n] X fun e w' => e = .returned (.tuple #[.agg #[.bool false, .slice none 0 0, .int .i64 0], .int .i64 6]) ∧ Kept X w') := fun X _ => of_inf n d hn (Or.inl hd1) X
      have F2 : Hid (∀ X, Tab X → _) := fun X hT => of_next n d hn dl (by omega) X hT
      obtain ⟨qq, okq, lowq, vq, M2⟩ := MM (d + 1) (by omega) (by omega)
      have C2 := CC qq 1 okq lowq (by rw [vq, ez]; exact cz_gt (D.nxt (by omega)))
      have KL : Hid (∀ X, Calls Tryd.prog 21 #[.int .i64 (pz n d), .int .i64 0, .int .i64 n] X fun e w' => e = .returned (.bool true) ∧ Kept X w') := fun X => by
        have := less_zero n d hn dl (by omega) X
        rw [decide_eq_true (by omega)] at this
        exact this
      cases o
      · exact quots_if_false w hT ⟨n1, L1, x1⟩ a1 c1 (sl_len h1) h1 rA eA ⟨n2, L2, x2⟩ a2 c2 (sl_len h2) h2 rB eB _ _ v n b1 b2 _ _ y1 y2 y3 hbl R1 KX F1 F2 KL M2 C2
      · exact quots_if_true w hT ⟨n1, L1, x1⟩ a1 c1 (sl_len h1) h1 rA eA ⟨n2, L2, x2⟩ a2 c2 (sl_len h2) h2 rB eB _ _ v n b1 b2 _ _ y1 y2 y3 hbl R1 KX F1 F2 KL M2 C2
    · have F1 : Hid (∀ X, Tab X → _) := fun X hT => of_at n d hn (by omega) dh _ rfl X hT
      obtain ⟨pp, okp, lowp, vp, M1⟩ := MM d (by omega) dh
      obtain ⟨f1, f2⟩ := D.fin (by omega)
      by_cases hd2 : d + 1 = (ifn n : Int)
      · have F2 : Hid (∀ X, Tab X → Calls Tryd.prog 15 #[.int .i64 (nxt (pz n d) n), .int .i64 n] X fun e w' => e = .returned (.tuple #[.agg #[.bool false, .slice none 0 0, .int .i64 0], .int .i64 6]) ∧ Kept X w') := fun X _ => by
          rw [nxt_pz n d hn dl dh (by omega)]
          exact of_inf n (d + 1) hn (Or.inr hd2) X
        cases o
        · have C1 := CC pp 0 okp lowp (by rw [vp, ez]; exact cz_eq (Decidable.not_not.1 (of_decide_eq_false f2.symm)))
          exact quots_fi_false w hT ⟨n1, L1, x1⟩ a1 c1 (sl_len h1) h1 rA eA ⟨n2, L2, x2⟩ a2 c2 (sl_len h2) h2 rB eB _ _ v n b1 b2 _ _ y1 y2 y3 hbl R1 KX F1 F2 M1 C1
        · have C1 := CC pp (-1) okp lowp (by
            rw [vp, ez]
            have := of_decide_eq_true f2.symm
            exact cz_lt (by omega))
          exact quots_fi_true w hT ⟨n1, L1, x1⟩ a1 c1 (sl_len h1) h1 rA eA ⟨n2, L2, x2⟩ a2 c2 (sl_len h2) h2 rB eB _ _ v n b1 b2 _ _ y1 y2 y3 hbl R1 KX F1 F2 M1 C1
      · have F2 : Hid (∀ X, Tab X → _) := fun X hT => of_next n d hn dl (by omega) X hT
        obtain ⟨qq, okq, lowq, vq, M2⟩ := MM (d + 1) (by omega) (by omega)
        have C2 := CC qq 1 okq lowq (by rw [vq, ez]; exact cz_gt (D.nxt (by omega)))
        cases o
        · have C1 := CC pp 0 okp lowp (by rw [vp, ez]; exact cz_eq (Decidable.not_not.1 (of_decide_eq_false f2.symm)))
          exact quots_ff_false w hT ⟨n1, L1, x1⟩ a1 c1 (sl_len h1) h1 rA eA ⟨n2, L2, x2⟩ a2 c2 (sl_len h2) h2 rB eB _ _ _ _ v n b1 b2 _ _ y1 y2 y3 hbl R1 KX F1 F2 M1 C1 M2 C2
        · have C1 := CC pp (-1) okp lowp (by
            rw [vp, ez]
            have := of_decide_eq_true f2.symm
            exact cz_lt (by omega))
          exact quots_ff_true w hT ⟨n1, L1, x1⟩ a1 c1 (sl_len h1) h1 rA eA ⟨n2, L2, x2⟩ a2 c2 (sl_len h2) h2 rB eB _ _ _ _ v n b1 b2 _ _ y1 y2 y3 hbl R1 KX F1 F2 M1 C1 M2 C2
end Go.Proofs.YtbheglkpmgmkoaaDoor
