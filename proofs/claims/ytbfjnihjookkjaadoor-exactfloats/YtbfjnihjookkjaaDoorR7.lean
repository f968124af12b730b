/- The walk of exact's Round at the value of a float, in every way. -/
import Derived.Test.YtbfjnihjookkjaaDoorR6
namespace Go.Proofs.YtbfjnihjookkjaaDoor
open Go.ChangeShapes Go.WideShapes Go.ChangeAt Go.RowKit
set_option linter.unusedVariables false
set_option linter.unusedSimpArgs false

theorem frm_vld (neg : Bool) (v : Nat) (x : Int) (r : Nm) (h : frm neg v x = some r) : vld r = true ∧ Rg r.mag ∧ r.mag.length ≤ 2000 := by
  unfold frm at h
  split at h
  · cases h
    exact ⟨rfl, fun d hd => (by cases hd), by simp⟩
  · rename_i hv
    split at h
    · rename_i hy
      cases h
      have hs := bl_sub v hv
      have hq := (bl_pos _ hs.2).2.2
      have hl := digs_len _ hs.2
      have hne : digs (v / 2 ^ tzn v) ≠ [] := by
        intro he
        rw [he] at hl
        simp only [List.length_nil] at hl
        omega
      have hdg := dg_digs (v / 2 ^ tzn v)
      have hodd : (digs (v / 2 ^ tzn v)).getD 0 0 % 2 = 1 := by
        have h1 := (tzn_div v hv).1
        have h2 := nv_getD _ hdg 0
        rw [nv_digs, Nat.mul_zero, Nat.pow_zero, Nat.div_one] at h2
        have h3 := hdg.getD 0
        omega
      refine ⟨?_, hdg.rg, by dsimp only; omega⟩
      unfold vld
      dsimp only
      rw [if_neg hne]
      unfold vldN
      rw [(dgb_iff _).2 hdg, and_one]
      simp only [Bool.and_eq_true, decide_eq_true_eq, bne_iff_ne, beq_iff_eq]
      exact ⟨⟨⟨⟨⟨by omega, trivial⟩, digs_last _ hs.2⟩, hodd⟩, hy.2.1⟩, hy.2.2⟩
    · cases h
theorem of_valid (b n : Int) (hn : n = 64 ∨ n = 32) (hc : cls b n < 3) : vld (ofN b n) = true ∧ Rg (ofN b n).mag ∧ (ofN b n).mag.length ≤ 2000 := frm_vld _ _ _ _ (of_frm b n hn hc)

theorem rnd_1 (b n : Int) (hb1 : -9223372036854775808 ≤ b) (hb2 : b ≤ 9223372036854775807) (hn : n = 64 ∨ n = 32) (hc : cls b n < 3) (h ex : Int) (m : Nat) (hm : m < 62) (hz : (h == 0) = false) (hkp : 0 < pmag b n) (hu : IntKind.u64.wrap h = h) (hbl : Lib.bitLen h.toNat = 60) (g0 : 0 ≤ h) (g1 : h ≤ 9223372036854775807)
    (hun : max (IntKind.i64.wrap (IntKind.i64.wrap (ex + 60) - kprec n)) (kleast n) = pexp b n) (hwm : IntKind.i64.wrap (pexp b n - ex) = (m : Int) + 1) (hk : h / 2 ^ (m + 1) = pmag b n) (ha1 : bits .and .i64 h (wrap64 (2 ^ m)) = 0) (ha2 : bits .and .i64 h (IntKind.i64.wrap (wrap64 (2 ^ m) - 1)) = 0) (w : World) (hT : Tab w) :
    Calls Tryd.prog 67 #[.agg #[.int .i64 n, .int .i64 (kprec n), .int .i64 (kleast n), .int .i64 (kinf n), .func (.func 126) #[] #[]], .agg #[.bool (pneg b n), .int .i64 h, .int .i64 ex, .bool false]] w fun e w' => e = .returned (.tuple #[.int .i64 b, .bool false]) ∧ Kept w w' := by
  have KL : Hid (∀ u, Calls Tryd.prog 101 #[.int .u64 h] u fun e w' => e = .returned (.int .i64 60) ∧ u = w') := fun u => by
    have := len h u g0 (by omega)
    rw [hbl] at this
    exact this
  have KS : Hid (∀ u, Calls Tryd.prog 102 #[.agg #[.bool (pneg b n), .int .i64 h, .int .i64 ex, .bool false], .int .i64 ((m : Int) + 1)] u fun e w' => e = .returned (.tuple #[.int .i64 (pmag b n), .agg #[.bool (pneg b n), .bool (bits .and .i64 (pmag b n) 1 == 1), .bool false, .bool false]]) ∧ Kept u w') := fun u => split_false (pneg b n) h ex (pmag b n) _ _ m hm _ false false hk rfl rfl _ 0 0 rfl ha1 ha2 rfl rfl rfl u
  have KJ : Hid (∀ u, Kept w u → Calls Tryd.prog 103 #[.bool (pneg b n), .int .i64 (pmag b n), .int .i64 (pexp b n), .int .i64 n] u fun e w' => e = .returned (.tuple #[.int .i64 b, .bool true]) ∧ Kept u w') := fun u k => join_back b n hb1 hb2 hn hc u (hT.kept k)
  cases hng : pneg b n
  · rw [hng] at KS KJ
    exact round_1false n (kprec n) (kleast n) (kinf n) h ex 60 _ _ (pexp b n) (pmag b n) b m _ hz hkp hu rfl rfl hun hwm w KL KS KJ
  · rw [hng] at KS KJ
    exact round_1true n (kprec n) (kleast n) (kinf n) h ex 60 _ _ (pexp b n) (pmag b n) b m _ hz hkp hu rfl rfl hun hwm w KL KS KJ

set_option maxHeartbeats 2000000 in
set_option maxRecDepth 100000 in
theorem xround_1 (n pr le fi : Int) (ng : Bool) (ao : Option Addr) (l c : Nat) (x res : Int) (ld : Array Value) (l0 l1 l2 l3 : Value) (w : World)
    (KR : Hid (∀ u, Kept ((w.alloc (.cells #[.bool ng, .slice ao l c, .int .i64 x] 31)).alloc (.cells #[.bool ng, .slice ao l c, .int .i64 x] 31)) u → Calls Tryd.prog 66 #[.int .i64 n, .int .i64 0, .slice (some ⟨w.heap.size + 1, 0, none⟩) 1 1] u fun e w' => e = .returned (.tuple #[.agg #[.int .i64 n, .int .i64 pr, .int .i64 le, .int .i64 fi, .func (.func 126) #[] #[]], .int .i64 0]) ∧ Kept u w'))
    (KD : Hid (∀ u, Kept w u → Calls Tryd.prog 68 #[.agg #[.bool ng, .slice ao l c, .int .i64 x]] u fun e w' => e = .returned (.agg #[l0, l1, l2, l3]) ∧ Kept u w'))
    (KO : Hid (∀ u, Kept w u → Calls Tryd.prog 67 #[.agg #[.int .i64 n, .int .i64 pr, .int .i64 le, .int .i64 fi, .func (.func 126) #[] #[]], .agg #[l0, l1, l2, l3]] u fun e w' => e = .returned (.tuple #[.int .i64 res, .bool false]) ∧ Kept u w')) :
    Calls Tryd.prog 24 #[.agg #[.bool ng, .slice ao l c, .int .i64 x], .int .i64 n, .int .i64 0] w fun e w' => e = .returned (.tuple #[.int .i64 res, .bool false, .int .i64 0]) ∧ Kept w w' := by
  have hK : Kept w ((w.alloc (.cells #[.bool ng, .slice ao l c, .int .i64 x] 31)).alloc (.cells #[.bool ng, .slice ao l c, .int .i64 x] 31)) := ((Kept.refl w).alloc _ _).alloc _ _
  go_enter Tryd.func24, Tryd.ntmps24
  go_wp2_with fail
  refine (KR.out _ (Kept.refl _)).mono ?_
  rintro e w1 ⟨rfl, k1⟩
  have k1' := k1.alloc #[.int .i64 n, .int .i64 pr, .int .i64 le, .int .i64 fi, .func (.func 126) #[] #[]] 87
  have hs1 := k1.below.size
  simp only [World.size_alloc] at hs1
  have kX : Kept (w.alloc (.cells #[.bool ng, .slice ao l c, .int .i64 x] 31)) (w1.alloc (.cells #[.int .i64 n, .int .i64 pr, .int .i64 le, .int .i64 fi, .func (.func 126) #[] #[]] 87)) := ((Kept.refl _).alloc _ _).trans k1'
  have HS : Hid (∀ u, Kept (w1.alloc (.cells #[.int .i64 n, .int .i64 pr, .int .i64 le, .int .i64 fi, .func (.func 126) #[] #[]] 87)) u → (u.cell? ⟨w1.heap.size, 0, none⟩ = some (.int .i64 n) ∧ u.cell? ⟨w1.heap.size, 1, none⟩ = some (.int .i64 pr) ∧ u.cell? ⟨w1.heap.size, 2, none⟩ = some (.int .i64 le) ∧ u.cell? ⟨w1.heap.size, 3, none⟩ = some (.int .i64 fi) ∧ u.cell? ⟨w1.heap.size, 4, none⟩ = some (.func (.func 126) #[] #[])) ∧ u.cell? ⟨w.heap.size, 0, none⟩ = some (.bool ng) ∧ u.cell? ⟨w.heap.size, 1, none⟩ = some (.slice ao l c) ∧ u.cell? ⟨w.heap.size, 2, none⟩ = some (.int .i64 x)) := fun u k => ⟨⟨(laid_cell k 0).trans (by simp [go_sem]), (laid_cell k 1).trans (by simp [go_sem]), (laid_cell k 2).trans (by simp [go_sem]), (laid_cell k 3).trans (by simp [go_sem]), (laid_cell k 4).trans (by simp [go_sem])⟩, (laid_cell (kX.trans k) 0).trans (by simp [go_sem]), (laid_cell (kX.trans k) 1).trans (by simp [go_sem]), (laid_cell (kX.trans k) 2).trans (by simp [go_sem])⟩
  have kD : Kept (w1.alloc (.cells #[.int .i64 n, .int .i64 pr, .int .i64 le, .int .i64 fi, .func (.func 126) #[] #[]] 87)) (w1.alloc (.cells #[.int .i64 n, .int .i64 pr, .int .i64 le, .int .i64 fi, .func (.func 126) #[] #[]] 87)).drew := (Kept.refl _).drew
  go_wp2_with fail
  go_region_held (fun u => (u.cell? ⟨w1.heap.size, 0, none⟩ = some (.int .i64 n) ∧ u.cell? ⟨w1.heap.size, 1, none⟩ = some (.int .i64 pr) ∧ u.cell? ⟨w1.heap.size, 2, none⟩ = some (.int .i64 le) ∧ u.cell? ⟨w1.heap.size, 3, none⟩ = some (.int .i64 fi) ∧ u.cell? ⟨w1.heap.size, 4, none⟩ = some (.func (.func 126) #[] #[])) ∧ u.cell? ⟨w.heap.size, 0, none⟩ = some (.bool ng) ∧ u.cell? ⟨w.heap.size, 1, none⟩ = some (.slice ao l c) ∧ u.cell? ⟨w.heap.size, 2, none⟩ = some (.int .i64 x)) (first | exact HS.out _ kD | assumption) (first | (go_at_call 68; refine (KD.out _ (hK.trans (k1'.trans kD))).mono ?_; rintro e w2 ⟨rfl, k2⟩; have e0 := HS.out _ (kD.trans k2)) | (go_at_call 67; refine (KO.out _ (hK.trans (k1'.trans (kD.trans k2)))).mono ?_; rintro e w3 ⟨rfl, k3⟩; have e0 := HS.out _ (kD.trans (k2.trans k3))))
  all_goals
    go_wp2_with fail
    exact bodyPost_ret (v := .tuple #[.int .i64 res, .bool false, .int .i64 0]) (by simp [results, Tryd.results24, go_sem]) rfl ⟨rfl, hK.trans (k1'.trans (kD.trans (k2.trans k3)))⟩

theorem roundF_1 (b n : Int) (hb1 : -9223372036854775808 ≤ b) (hb2 : b ≤ 9223372036854775807) (hn : n = 64 ∨ n = 32) (hc : cls b n < 3) (ao : Option Addr) (c : Nat) (w : World) (hT : Tab w) (h : Sl w (.slice ao (ofN b n).mag.length c) (ofN b n).mag) :
    Calls Tryd.prog 24 #[.agg #[.bool (ofN b n).neg, .slice ao (ofN b n).mag.length c, .int .i64 (ofN b n).exp], .int .i64 n, .int .i64 0] w fun e w' => e = .returned (.tuple #[.int .i64 (can b n), .bool false, .int .i64 0]) ∧ Kept w w' := by
  obtain ⟨hvl, hR, hlen⟩ := of_valid b n hn hc
  have KR : Hid (∀ u, Kept ((w.alloc (.cells #[.bool (ofN b n).neg, .slice ao (ofN b n).mag.length c, .int .i64 (ofN b n).exp] 31)).alloc (.cells #[.bool (ofN b n).neg, .slice ao (ofN b n).mag.length c, .int .i64 (ofN b n).exp] 31)) u → Calls Tryd.prog 66 #[.int .i64 n, .int .i64 0, .slice (some ⟨w.heap.size + 1, 0, none⟩) 1 1] u fun e w' => e = .returned (.tuple #[.agg #[.int .i64 n, .int .i64 (kprec n), .int .i64 (kleast n), .int .i64 (kinf n), .func (.func 126) #[] #[]], .int .i64 0]) ∧ Kept u w') := fun u k => by
    refine roundingOf_0 n (kprec n) (kleast n) (kinf n) (fun u => kindOf_ok n hn u) _ u ?_
    have hb : w.heap.size + 1 < ((w.alloc (.cells #[.bool (ofN b n).neg, .slice ao (ofN b n).mag.length c, .int .i64 (ofN b n).exp] 31)).alloc (.cells #[.bool (ofN b n).neg, .slice ao (ofN b n).mag.length c, .int .i64 (ofN b n).exp] 31)).heap.size := by simp
    exact allValid_at (w.heap.size + 1) (Nat.lt_of_lt_of_le hb k.below.size) (ofN b n).neg (ofN b n).mag hR (by omega) ao c (ofN b n).exp (h.kept ((((Kept.refl w).alloc _ _).alloc _ _).trans k)) ((k.below.cell (p := ⟨w.heap.size + 1, 0, none⟩) hb).trans (by simp [go_sem])) ((k.below.cell (p := ⟨w.heap.size + 1, 1, none⟩) hb).trans (by simp [go_sem])) ((k.below.cell (p := ⟨w.heap.size + 1, 2, none⟩) hb).trans (by simp [go_sem])) true hvl
  rw [pneg_can b n hb1 hb2 hn hc]
  by_cases h0 : pmag b n = 0
  · rw [if_pos h0]
    have e0 := (of_zero b n h0).2
    rw [e0] at KR h ⊢
    exact xround_1 n _ _ _ false ao 0 c 0 0 #[] _ _ _ _ w KR (fun u k => leading_nil false ao c 0 u) (fun u k => round_zero n _ _ _ _ 0 false false u)
  · rw [if_neg h0]
    obtain ⟨o, t, m, hh, ex, ⟨q1, q2, q3, q4, q5, q6⟩, hm, hz, hkp, hu, hbl, g0, g1, hun, hwm, hk, ha1, ha2⟩ := fl_round b n hn hc h0
    have hne : (ofN b n).mag ≠ [] := by
      rw [q1]
      dsimp only
      intro he
      have := q3
      rw [he] at this
      exact q2 this.symm
    refine xround_1 n _ _ _ (ofN b n).neg ao (ofN b n).mag.length c (ofN b n).exp b #[] _ _ _ _ w KR (fun u k => leading_any (ofN b n).neg (ofN b n).mag (ofN b n).exp hne hvl ao c u (h.kept k)) (fun u k => ?_)
    have hd1 : nv (ofN b n).mag = o := by rw [q1]; exact q3
    have hx : (ofN b n).exp = pexp b n + (t : Int) := by rw [q1]
    have hng : (ofN b n).neg = pneg b n := by rw [q1]
    rw [hd1, hx, hng, q5, q6, decide_eq_false (show ¬ (60 < (bl o : Int)) by omega)]
    exact rnd_1 b n hb1 hb2 hn hc hh ex m hm hz hkp hu hbl g0 g1 hun hwm hk ha1 ha2 u (hT.kept k)

theorem rnd_2 (b n : Int) (hb1 : -9223372036854775808 ≤ b) (hb2 : b ≤ 9223372036854775807) (hn : n = 64 ∨ n = 32) (hc : cls b n < 3) (h ex : Int) (m : Nat) (hm : m < 62) (hz : (h == 0) = false) (hkp : 0 < pmag b n) (hu : IntKind.u64.wrap h = h) (hbl : Lib.bitLen h.toNat = 60) (g0 : 0 ≤ h) (g1 : h ≤ 9223372036854775807)
    (hun : max (IntKind.i64.wrap (IntKind.i64.wrap (ex + 60) - kprec n)) (kleast n) = pexp b n) (hwm : IntKind.i64.wrap (pexp b n - ex) = (m : Int) + 1) (hk : h / 2 ^ (m + 1) = pmag b n) (ha1 : bits .and .i64 h (wrap64 (2 ^ m)) = 0) (ha2 : bits .and .i64 h (IntKind.i64.wrap (wrap64 (2 ^ m) - 1)) = 0) (w : World) (hT : Tab w) :
    Calls Tryd.prog 67 #[.agg #[.int .i64 n, .int .i64 (kprec n), .int .i64 (kleast n), .int .i64 (kinf n), .func (.func 127) #[] #[]], .agg #[.bool (pneg b n), .int .i64 h, .int .i64 ex, .bool false]] w fun e w' => e = .returned (.tuple #[.int .i64 b, .bool false]) ∧ Kept w w' := by
  have KL : Hid (∀ u, Calls Tryd.prog 101 #[.int .u64 h] u fun e w' => e = .returned (.int .i64 60) ∧ u = w') := fun u => by
    have := len h u g0 (by omega)
    rw [hbl] at this
    exact this
  have KS : Hid (∀ u, Calls Tryd.prog 102 #[.agg #[.bool (pneg b n), .int .i64 h, .int .i64 ex, .bool false], .int .i64 ((m : Int) + 1)] u fun e w' => e = .returned (.tuple #[.int .i64 (pmag b n), .agg #[.bool (pneg b n), .bool (bits .and .i64 (pmag b n) 1 == 1), .bool false, .bool false]]) ∧ Kept u w') := fun u => split_false (pneg b n) h ex (pmag b n) _ _ m hm _ false false hk rfl rfl _ 0 0 rfl ha1 ha2 rfl rfl rfl u
  have KJ : Hid (∀ u, Kept w u → Calls Tryd.prog 103 #[.bool (pneg b n), .int .i64 (pmag b n), .int .i64 (pexp b n), .int .i64 n] u fun e w' => e = .returned (.tuple #[.int .i64 b, .bool true]) ∧ Kept u w') := fun u k => join_back b n hb1 hb2 hn hc u (hT.kept k)
  cases hng : pneg b n
  · rw [hng] at KS KJ
    exact round_2false n (kprec n) (kleast n) (kinf n) h ex 60 _ _ (pexp b n) (pmag b n) b m _ hz hkp hu rfl rfl hun hwm w KL KS KJ
  · rw [hng] at KS KJ
    exact round_2true n (kprec n) (kleast n) (kinf n) h ex 60 _ _ (pexp b n) (pmag b n) b m _ hz hkp hu rfl rfl hun hwm w KL KS KJ

set_option maxHeartbeats 2000000 in
set_option maxRecDepth 100000 in
theorem xround_2 (n pr le fi : Int) (ng : Bool) (ao : Option Addr) (l c : Nat) (x res : Int) (ld : Array Value) (l0 l1 l2 l3 : Value) (w : World)
    (KR : Hid (∀ u, Kept ((w.alloc (.cells #[.bool ng, .slice ao l c, .int .i64 x] 31)).alloc (.cells #[.bool ng, .slice ao l c, .int .i64 x] 31)) u → Calls Tryd.prog 66 #[.int .i64 n, .int .i64 1, .slice (some ⟨w.heap.size + 1, 0, none⟩) 1 1] u fun e w' => e = .returned (.tuple #[.agg #[.int .i64 n, .int .i64 pr, .int .i64 le, .int .i64 fi, .func (.func 127) #[] #[]], .int .i64 0]) ∧ Kept u w'))
    (KD : Hid (∀ u, Kept w u → Calls Tryd.prog 68 #[.agg #[.bool ng, .slice ao l c, .int .i64 x]] u fun e w' => e = .returned (.agg #[l0, l1, l2, l3]) ∧ Kept u w'))
    (KO : Hid (∀ u, Kept w u → Calls Tryd.prog 67 #[.agg #[.int .i64 n, .int .i64 pr, .int .i64 le, .int .i64 fi, .func (.func 127) #[] #[]], .agg #[l0, l1, l2, l3]] u fun e w' => e = .returned (.tuple #[.int .i64 res, .bool false]) ∧ Kept u w')) :
    Calls Tryd.prog 24 #[.agg #[.bool ng, .slice ao l c, .int .i64 x], .int .i64 n, .int .i64 1] w fun e w' => e = .returned (.tuple #[.int .i64 res, .bool false, .int .i64 0]) ∧ Kept w w' := by
  have hK : Kept w ((w.alloc (.cells #[.bool ng, .slice ao l c, .int .i64 x] 31)).alloc (.cells #[.bool ng, .slice ao l c, .int .i64 x] 31)) := ((Kept.refl w).alloc _ _).alloc _ _
  go_enter Tryd.func24, Tryd.ntmps24
  go_wp2_with fail
  refine (KR.out _ (Kept.refl _)).mono ?_
  rintro e w1 ⟨rfl, k1⟩
  have k1' := k1.alloc #[.int .i64 n, .int .i64 pr, .int .i64 le, .int .i64 fi, .func (.func 127) #[] #[]] 87
  have hs1 := k1.below.size
  simp only [World.size_alloc] at hs1
  have kX : Kept (w.alloc (.cells #[.bool ng, .slice ao l c, .int .i64 x] 31)) (w1.alloc (.cells #[.int .i64 n, .int .i64 pr, .int .i64 le, .int .i64 fi, .func (.func 127) #[] #[]] 87)) := ((Kept.refl _).alloc _ _).trans k1'
  have HS : Hid (∀ u, Kept (w1.alloc (.cells #[.int .i64 n, .int .i64 pr, .int .i64 le, .int .i64 fi, .func (.func 127) #[] #[]] 87)) u → (u.cell? ⟨w1.heap.size, 0, none⟩ = some (.int .i64 n) ∧ u.cell? ⟨w1.heap.size, 1, none⟩ = some (.int .i64 pr) ∧ u.cell? ⟨w1.heap.size, 2, none⟩ = some (.int .i64 le) ∧ u.cell? ⟨w1.heap.size, 3, none⟩ = some (.int .i64 fi) ∧ u.cell? ⟨w1.heap.size, 4, none⟩ = some (.func (.func 127) #[] #[])) ∧ u.cell? ⟨w.heap.size, 0, none⟩ = some (.bool ng) ∧ u.cell? ⟨w.heap.size, 1, none⟩ = some (.slice ao l c) ∧ u.cell? ⟨w.heap.size, 2, none⟩ = some (.int .i64 x)) := fun u k => ⟨⟨(laid_cell k 0).trans (by simp [go_sem]), (laid_cell k 1).trans (by simp [go_sem]), (laid_cell k 2).trans (by simp [go_sem]), (laid_cell k 3).trans (by simp [go_sem]), (laid_cell k 4).trans (by simp [go_sem])⟩, (laid_cell (kX.trans k) 0).trans (by simp [go_sem]), (laid_cell (kX.trans k) 1).trans (by simp [go_sem]), (laid_cell (kX.trans k) 2).trans (by simp [go_sem])⟩
  have kD : Kept (w1.alloc (.cells #[.int .i64 n, .int .i64 pr, .int .i64 le, .int .i64 fi, .func (.func 127) #[] #[]] 87)) (w1.alloc (.cells #[.int .i64 n, .int .i64 pr, .int .i64 le, .int .i64 fi, .func (.func 127) #[] #[]] 87)).drew := (Kept.refl _).drew
  go_wp2_with fail
  go_region_held (fun u => (u.cell? ⟨w1.heap.size, 0, none⟩ = some (.int .i64 n) ∧ u.cell? ⟨w1.heap.size, 1, none⟩ = some (.int .i64 pr) ∧ u.cell? ⟨w1.heap.size, 2, none⟩ = some (.int .i64 le) ∧ u.cell? ⟨w1.heap.size, 3, none⟩ = some (.int .i64 fi) ∧ u.cell? ⟨w1.heap.size, 4, none⟩ = some (.func (.func 127) #[] #[])) ∧ u.cell? ⟨w.heap.size, 0, none⟩ = some (.bool ng) ∧ u.cell? ⟨w.heap.size, 1, none⟩ = some (.slice ao l c) ∧ u.cell? ⟨w.heap.size, 2, none⟩ = some (.int .i64 x)) (first | exact HS.out _ kD | assumption) (first | (go_at_call 68; refine (KD.out _ (hK.trans (k1'.trans kD))).mono ?_; rintro e w2 ⟨rfl, k2⟩; have e0 := HS.out _ (kD.trans k2)) | (go_at_call 67; refine (KO.out _ (hK.trans (k1'.trans (kD.trans k2)))).mono ?_; rintro e w3 ⟨rfl, k3⟩; have e0 := HS.out _ (kD.trans (k2.trans k3))))
  all_goals
    go_wp2_with fail
    exact bodyPost_ret (v := .tuple #[.int .i64 res, .bool false, .int .i64 0]) (by simp [results, Tryd.results24, go_sem]) rfl ⟨rfl, hK.trans (k1'.trans (kD.trans (k2.trans k3)))⟩

theorem roundF_2 (b n : Int) (hb1 : -9223372036854775808 ≤ b) (hb2 : b ≤ 9223372036854775807) (hn : n = 64 ∨ n = 32) (hc : cls b n < 3) (ao : Option Addr) (c : Nat) (w : World) (hT : Tab w) (h : Sl w (.slice ao (ofN b n).mag.length c) (ofN b n).mag) :
    Calls Tryd.prog 24 #[.agg #[.bool (ofN b n).neg, .slice ao (ofN b n).mag.length c, .int .i64 (ofN b n).exp], .int .i64 n, .int .i64 1] w fun e w' => e = .returned (.tuple #[.int .i64 (can b n), .bool false, .int .i64 0]) ∧ Kept w w' := by
  obtain ⟨hvl, hR, hlen⟩ := of_valid b n hn hc
  have KR : Hid (∀ u, Kept ((w.alloc (.cells #[.bool (ofN b n).neg, .slice ao (ofN b n).mag.length c, .int .i64 (ofN b n).exp] 31)).alloc (.cells #[.bool (ofN b n).neg, .slice ao (ofN b n).mag.length c, .int .i64 (ofN b n).exp] 31)) u → Calls Tryd.prog 66 #[.int .i64 n, .int .i64 1, .slice (some ⟨w.heap.size + 1, 0, none⟩) 1 1] u fun e w' => e = .returned (.tuple #[.agg #[.int .i64 n, .int .i64 (kprec n), .int .i64 (kleast n), .int .i64 (kinf n), .func (.func 127) #[] #[]], .int .i64 0]) ∧ Kept u w') := fun u k => by
    refine roundingOf_1 n (kprec n) (kleast n) (kinf n) (fun u => kindOf_ok n hn u) _ u ?_
    have hb : w.heap.size + 1 < ((w.alloc (.cells #[.bool (ofN b n).neg, .slice ao (ofN b n).mag.length c, .int .i64 (ofN b n).exp] 31)).alloc (.cells #[.bool (ofN b n).neg, .slice ao (ofN b n).mag.length c, .int .i64 (ofN b n).exp] 31)).heap.size := by simp
    exact allValid_at (w.heap.size + 1) (Nat.lt_of_lt_of_le hb k.below.size) (ofN b n).neg (ofN b n).mag hR (by omega) ao c (ofN b n).exp (h.kept ((((Kept.refl w).alloc _ _).alloc _ _).trans k)) ((k.below.cell (p := ⟨w.heap.size + 1, 0, none⟩) hb).trans (by simp [go_sem])) ((k.below.cell (p := ⟨w.heap.size + 1, 1, none⟩) hb).trans (by simp [go_sem])) ((k.below.cell (p := ⟨w.heap.size + 1, 2, none⟩) hb).trans (by simp [go_sem])) true hvl
  rw [pneg_can b n hb1 hb2 hn hc]
  by_cases h0 : pmag b n = 0
  · rw [if_pos h0]
    have e0 := (of_zero b n h0).2
    rw [e0] at KR h ⊢
    exact xround_2 n _ _ _ false ao 0 c 0 0 #[] _ _ _ _ w KR (fun u k => leading_nil false ao c 0 u) (fun u k => round_zero n _ _ _ _ 0 false false u)
  · rw [if_neg h0]
    obtain ⟨o, t, m, hh, ex, ⟨q1, q2, q3, q4, q5, q6⟩, hm, hz, hkp, hu, hbl, g0, g1, hun, hwm, hk, ha1, ha2⟩ := fl_round b n hn hc h0
    have hne : (ofN b n).mag ≠ [] := by
      rw [q1]
      dsimp only
      intro he
      have := q3
      rw [he] at this
      exact q2 this.symm
    refine xround_2 n _ _ _ (ofN b n).neg ao (ofN b n).mag.length c (ofN b n).exp b #[] _ _ _ _ w KR (fun u k => leading_any (ofN b n).neg (ofN b n).mag (ofN b n).exp hne hvl ao c u (h.kept k)) (fun u k => ?_)
    have hd1 : nv (ofN b n).mag = o := by rw [q1]; exact q3
    have hx : (ofN b n).exp = pexp b n + (t : Int) := by rw [q1]
    have hng : (ofN b n).neg = pneg b n := by rw [q1]
    rw [hd1, hx, hng, q5, q6, decide_eq_false (show ¬ (60 < (bl o : Int)) by omega)]
    exact rnd_2 b n hb1 hb2 hn hc hh ex m hm hz hkp hu hbl g0 g1 hun hwm hk ha1 ha2 u (hT.kept k)

theorem rnd_3 (b n : Int) (hb1 : -9223372036854775808 ≤ b) (hb2 : b ≤ 9223372036854775807) (hn : n = 64 ∨ n = 32) (hc : cls b n < 3) (h ex : Int) (m : Nat) (hm : m < 62) (hz : (h == 0) = false) (hkp : 0 < pmag b n) (hu : IntKind.u64.wrap h = h) (hbl : Lib.bitLen h.toNat = 60) (g0 : 0 ≤ h) (g1 : h ≤ 9223372036854775807)
    (hun : max (IntKind.i64.wrap (IntKind.i64.wrap (ex + 60) - kprec n)) (kleast n) = pexp b n) (hwm : IntKind.i64.wrap (pexp b n - ex) = (m : Int) + 1) (hk : h / 2 ^ (m + 1) = pmag b n) (ha1 : bits .and .i64 h (wrap64 (2 ^ m)) = 0) (ha2 : bits .and .i64 h (IntKind.i64.wrap (wrap64 (2 ^ m) - 1)) = 0) (w : World) (hT : Tab w) :
    Calls Tryd.prog 67 #[.agg #[.int .i64 n, .int .i64 (kprec n), .int .i64 (kleast n), .int .i64 (kinf n), .func (.func 128) #[] #[]], .agg #[.bool (pneg b n), .int .i64 h, .int .i64 ex, .bool false]] w fun e w' => e = .returned (.tuple #[.int .i64 b, .bool false]) ∧ Kept w w' := by
  have KL : Hid (∀ u, Calls Tryd.prog 101 #[.int .u64 h] u fun e w' => e = .returned (.int .i64 60) ∧ u = w') := fun u => by
    have := len h u g0 (by omega)
    rw [hbl] at this
    exact this
  have KS : Hid (∀ u, Calls Tryd.prog 102 #[.agg #[.bool (pneg b n), .int .i64 h, .int .i64 ex, .bool false], .int .i64 ((m : Int) + 1)] u fun e w' => e = .returned (.tuple #[.int .i64 (pmag b n), .agg #[.bool (pneg b n), .bool (bits .and .i64 (pmag b n) 1 == 1), .bool false, .bool false]]) ∧ Kept u w') := fun u => split_false (pneg b n) h ex (pmag b n) _ _ m hm _ false false hk rfl rfl _ 0 0 rfl ha1 ha2 rfl rfl rfl u
  have KJ : Hid (∀ u, Kept w u → Calls Tryd.prog 103 #[.bool (pneg b n), .int .i64 (pmag b n), .int .i64 (pexp b n), .int .i64 n] u fun e w' => e = .returned (.tuple #[.int .i64 b, .bool true]) ∧ Kept u w') := fun u k => join_back b n hb1 hb2 hn hc u (hT.kept k)
  cases hng : pneg b n
  · rw [hng] at KS KJ
    exact round_3false n (kprec n) (kleast n) (kinf n) h ex 60 _ _ (pexp b n) (pmag b n) b m _ hz hkp hu rfl rfl hun hwm w KL KS KJ
  · rw [hng] at KS KJ
    exact round_3true n (kprec n) (kleast n) (kinf n) h ex 60 _ _ (pexp b n) (pmag b n) b m _ hz hkp hu rfl rfl hun hwm w KL KS KJ

set_option maxHeartbeats 2000000 in
set_option maxRecDepth 100000 in
theorem xround_3 (n pr le fi : Int) (ng : Bool) (ao : Option Addr) (l c : Nat) (x res : Int) (ld : Array Value) (l0 l1 l2 l3 : Value) (w : World)
    (KR : Hid (∀ u, Kept ((w.alloc (.cells #[.bool ng, .slice ao l c, .int .i64 x] 31)).alloc (.cells #[.bool ng, .slice ao l c, .int .i64 x] 31)) u → Calls Tryd.prog 66 #[.int .i64 n, .int .i64 2, .slice (some ⟨w.heap.size + 1, 0, none⟩) 1 1] u fun e w' => e = .returned (.tuple #[.agg #[.int .i64 n, .int .i64 pr, .int .i64 le, .int .i64 fi, .func (.func 128) #[] #[]], .int .i64 0]) ∧ Kept u w'))
    (KD : Hid (∀ u, Kept w u → Calls Tryd.prog 68 #[.agg #[.bool ng, .slice ao l c, .int .i64 x]] u fun e w' => e = .returned (.agg #[l0, l1, l2, l3]) ∧ Kept u w'))
    (KO : Hid (∀ u, Kept w u → Calls Tryd.prog 67 #[.agg #[.int .i64 n, .int .i64 pr, .int .i64 le, .int .i64 fi, .func (.func 128) #[] #[]], .agg #[l0, l1, l2, l3]] u fun e w' => e = .returned (.tuple #[.int .i64 res, .bool false]) ∧ Kept u w')) :
    Calls Tryd.prog 24 #[.agg #[.bool ng, .slice ao l c, .int .i64 x], .int .i64 n, .int .i64 2] w fun e w' => e = .returned (.tuple #[.int .i64 res, .bool false, .int .i64 0]) ∧ Kept w w' := by
  have hK : Kept w ((w.alloc (.cells #[.bool ng, .slice ao l c, .int .i64 x] 31)).alloc (.cells #[.bool ng, .slice ao l c, .int .i64 x] 31)) := ((Kept.refl w).alloc _ _).alloc _ _
  go_enter Tryd.func24, Tryd.ntmps24
  go_wp2_with fail
  refine (KR.out _ (Kept.refl _)).mono ?_
  rintro e w1 ⟨rfl, k1⟩
  have k1' := k1.alloc #[.int .i64 n, .int .i64 pr, .int .i64 le, .int .i64 fi, .func (.func 128) #[] #[]] 87
  have hs1 := k1.below.size
  simp only [World.size_alloc] at hs1
  have kX : Kept (w.alloc (.cells #[.bool ng, .slice ao l c, .int .i64 x] 31)) (w1.alloc (.cells #[.int .i64 n, .int .i64 pr, .int .i64 le, .int .i64 fi, .func (.func 128) #[] #[]] 87)) := ((Kept.refl _).alloc _ _).trans k1'
  have HS : Hid (∀ u, Kept (w1.alloc (.cells #[.int .i64 n, .int .i64 pr, .int .i64 le, .int .i64 fi, .func (.func 128) #[] #[]] 87)) u → (u.cell? ⟨w1.heap.size, 0, none⟩ = some (.int .i64 n) ∧ u.cell? ⟨w1.heap.size, 1, none⟩ = some (.int .i64 pr) ∧ u.cell? ⟨w1.heap.size, 2, none⟩ = some (.int .i64 le) ∧ u.cell? ⟨w1.heap.size, 3, none⟩ = some (.int .i64 fi) ∧ u.cell? ⟨w1.heap.size, 4, none⟩ = some (.func (.func 128) #[] #[])) ∧ u.cell? ⟨w.heap.size, 0, none⟩ = some (.bool ng) ∧ u.cell? ⟨w.heap.size, 1, none⟩ = some (.slice ao l c) ∧ u.cell? ⟨w.heap.size, 2, none⟩ = some (.int .i64 x)) := fun u k => ⟨⟨(laid_cell k 0).trans (by simp [go_sem]), (laid_cell k 1).trans (by simp [go_sem]), (laid_cell k 2).trans (by simp [go_sem]), (laid_cell k 3).trans (by simp [go_sem]), (laid_cell k 4).trans (by simp [go_sem])⟩, (laid_cell (kX.trans k) 0).trans (by simp [go_sem]), (laid_cell (kX.trans k) 1).trans (by simp [go_sem]), (laid_cell (kX.trans k) 2).trans (by simp [go_sem])⟩
  have kD : Kept (w1.alloc (.cells #[.int .i64 n, .int .i64 pr, .int .i64 le, .int .i64 fi, .func (.func 128) #[] #[]] 87)) (w1.alloc (.cells #[.int .i64 n, .int .i64 pr, .int .i64 le, .int .i64 fi, .func (.func 128) #[] #[]] 87)).drew := (Kept.refl _).drew
  go_wp2_with fail
  go_region_held (fun u => (u.cell? ⟨w1.heap.size, 0, none⟩ = some (.int .i64 n) ∧ u.cell? ⟨w1.heap.size, 1, none⟩ = some (.int .i64 pr) ∧ u.cell? ⟨w1.heap.size, 2, none⟩ = some (.int .i64 le) ∧ u.cell? ⟨w1.heap.size, 3, none⟩ = some (.int .i64 fi) ∧ u.cell? ⟨w1.heap.size, 4, none⟩ = some (.func (.func 128) #[] #[])) ∧ u.cell? ⟨w.heap.size, 0, none⟩ = some (.bool ng) ∧ u.cell? ⟨w.heap.size, 1, none⟩ = some (.slice ao l c) ∧ u.cell? ⟨w.heap.size, 2, none⟩ = some (.int .i64 x)) (first | exact HS.out _ kD | assumption) (first | (go_at_call 68; refine (KD.out _ (hK.trans (k1'.trans kD))).mono ?_; rintro e w2 ⟨rfl, k2⟩; have e0 := HS.out _ (kD.trans k2)) | (go_at_call 67; refine (KO.out _ (hK.trans (k1'.trans (kD.trans k2)))).mono ?_; rintro e w3 ⟨rfl, k3⟩; have e0 := HS.out _ (kD.trans (k2.trans k3))))
  all_goals
    go_wp2_with fail
    exact bodyPost_ret (v := .tuple #[.int .i64 res, .bool false, .int .i64 0]) (by simp [results, Tryd.results24, go_sem]) rfl ⟨rfl, hK.trans (k1'.trans (kD.trans (k2.trans k3)))⟩

theorem roundF_3 (b n : Int) (hb1 : -9223372036854775808 ≤ b) (hb2 : b ≤ 9223372036854775807) (hn : n = 64 ∨ n = 32) (hc : cls b n < 3) (ao : Option Addr) (c : Nat) (w : World) (hT : Tab w) (h : Sl w (.slice ao (ofN b n).mag.length c) (ofN b n).mag) :
    Calls Tryd.prog 24 #[.agg #[.bool (ofN b n).neg, .slice ao (ofN b n).mag.length c, .int .i64 (ofN b n).exp], .int .i64 n, .int .i64 2] w fun e w' => e = .returned (.tuple #[.int .i64 (can b n), .bool false, .int .i64 0]) ∧ Kept w w' := by
  obtain ⟨hvl, hR, hlen⟩ := of_valid b n hn hc
  have KR : Hid (∀ u, Kept ((w.alloc (.cells #[.bool (ofN b n).neg, .slice ao (ofN b n).mag.length c, .int .i64 (ofN b n).exp] 31)).alloc (.cells #[.bool (ofN b n).neg, .slice ao (ofN b n).mag.length c, .int .i64 (ofN b n).exp] 31)) u → Calls Tryd.prog 66 #[.int .i64 n, .int .i64 2, .slice (some ⟨w.heap.size + 1, 0, none⟩) 1 1] u fun e w' => e = .returned (.tuple #[.agg #[.int .i64 n, .int .i64 (kprec n), .int .i64 (kleast n), .int .i64 (kinf n), .func (.func 128) #[] #[]], .int .i64 0]) ∧ Kept u w') := fun u k => by
    refine roundingOf_2 n (kprec n) (kleast n) (kinf n) (fun u => kindOf_ok n hn u) _ u ?_
    have hb : w.heap.size + 1 < ((w.alloc (.cells #[.bool (ofN b n).neg, .slice ao (ofN b n).mag.length c, .int .i64 (ofN b n).exp] 31)).alloc (.cells #[.bool (ofN b n).neg, .slice ao (ofN b n).mag.length c, .int .i64 (ofN b n).exp] 31)).heap.size := by simp
    exact allValid_at (w.heap.size + 1) (Nat.lt_of_lt_of_le hb k.below.size) (ofN b n).neg (ofN b n).mag hR (by omega) ao c (ofN b n).exp (h.kept ((((Kept.refl w).alloc _ _).alloc _ _).trans k)) ((k.below.cell (p := ⟨w.heap.size + 1, 0, none⟩) hb).trans (by simp [go_sem])) ((k.below.cell (p := ⟨w.heap.size + 1, 1, none⟩) hb).trans (by simp [go_sem])) ((k.below.cell (p := ⟨w.heap.size + 1, 2, none⟩) hb).trans (by simp [go_sem])) true hvl
  rw [pneg_can b n hb1 hb2 hn hc]
  by_cases h0 : pmag b n = 0
  · rw [if_pos h0]
    have e0 := (of_zero b n h0).2
    rw [e0] at KR h ⊢
    exact xround_3 n _ _ _ false ao 0 c 0 0 #[] _ _ _ _ w KR (fun u k => leading_nil false ao c 0 u) (fun u k => round_zero n _ _ _ _ 0 false false u)
  · rw [if_neg h0]
    obtain ⟨o, t, m, hh, ex, ⟨q1, q2, q3, q4, q5, q6⟩, hm, hz, hkp, hu, hbl, g0, g1, hun, hwm, hk, ha1, ha2⟩ := fl_round b n hn hc h0
    have hne : (ofN b n).mag ≠ [] := by
      rw [q1]
      dsimp only
      intro he
      have := q3
      rw [he] at this
      exact q2 this.symm
    refine xround_3 n _ _ _ (ofN b n).neg ao (ofN b n).mag.length c (ofN b n).exp b #[] _ _ _ _ w KR (fun u k => leading_any (ofN b n).neg (ofN b n).mag (ofN b n).exp hne hvl ao c u (h.kept k)) (fun u k => ?_)
    have hd1 : nv (ofN b n).mag = o := by rw [q1]; exact q3
    have hx : (ofN b n).exp = pexp b n + (t : Int) := by rw [q1]
    have hng : (ofN b n).neg = pneg b n := by rw [q1]
    rw [hd1, hx, hng, q5, q6, decide_eq_false (show ¬ (60 < (bl o : Int)) by omega)]
    exact rnd_3 b n hb1 hb2 hn hc hh ex m hm hz hkp hu hbl g0 g1 hun hwm hk ha1 ha2 u (hT.kept k)

end Go.Proofs.YtbfjnihjookkjaaDoor
