/- The walks of the closures that clone and form: Make's, Neg's, Scale's. The walks of exact's Make, Neg, Scale, Sign, Int. The walks of exact's Neg, Scale, Sign, Int. The sum of two numbers that are not 0. The sum of any two numbers, noughts too. Numbers by their values: a valid number is a whole number at a scale; sums and products are those of whole numbers. The rows of a product: what the double loop of exact's product does to its digits. The order of two numbers, signs aside: what exact's orderOfSizes reckons; and that of their values. The walks of exact's Add of two numbers that are not 0, and Int. -/
import Derived.Test.YtbffekcjdcihpaaDoorPb
import Derived.Test.YtbffekcjdcihpaaDoorD15
namespace Go.Proofs.YtbffekcjdcihpaaDoor
open Go.ChangeShapes Go.WideShapes Go.ChangeAt Go.RowKit
set_option linter.unusedVariables false
set_option linter.unusedSimpArgs false

set_option maxHeartbeats 1000000 in
set_option maxRecDepth 100000 in
theorem make_in_ok (neg : Bool) (x : Int) (L : List Int) (hL : Dg L) (hlen : L.length < 60000000) (ao : Option Addr) (cap : Nat) (hcap : ao = none → cap = 0) (r : Nm) (hf : frm (neg) (nv L) (x) = some r) (p q s : Nat) (w : World) (hp : p < w.heap.size) (hq : q < w.heap.size) (hs : s < w.heap.size) (h : Sl w (.slice ao L.length cap) L) (hT : Tab w)
    (c0 : w.cell? ⟨p, 0, none⟩ = some (.bool neg)) (c1 : w.cell? ⟨q, 0, none⟩ = some (.slice ao L.length cap)) (c2 : w.cell? ⟨s, 0, none⟩ = some (.int .i64 x)) : Calls Tryd.prog 23 #[.pointer (some ⟨p, 0, none⟩), .pointer (some ⟨q, 0, none⟩), .pointer (some ⟨s, 0, none⟩)] w fun e w' => (∃ v, e = .returned v ∧ New w w' v r) ∧ Kept w w' := by
  have hK := (Kept.refl w).alloc #[.bool false, .slice none 0 0, .int .i64 0] 24
  have C0 : Hid (∀ u, Kept w u → u.cell? ⟨p, 0, none⟩ = some (.bool neg)) := fun u k => (k.below.cell (p := ⟨p, 0, none⟩) hp).trans c0
  have C1 : Hid (∀ u, Kept w u → u.cell? ⟨q, 0, none⟩ = some (.slice ao L.length cap)) := fun u k => (k.below.cell (p := ⟨q, 0, none⟩) hq).trans c1
  have C2 : Hid (∀ u, Kept w u → u.cell? ⟨s, 0, none⟩ = some (.int .i64 x)) := fun u k => (k.below.cell (p := ⟨s, 0, none⟩) hs).trans c2
  have KC : Hid (∀ u, Kept w u → Calls Tryd.prog 25 #[.slice ao L.length cap] u fun e w' => (∃ sv, e = .returned sv ∧ Cl u w' sv L) ∧ Kept u w') := fun u k => clone_any L (by omega) ao cap hcap u (h.kept k)
  have KF : Hid (∀ u0 u sv, Kept w u0 → Kept u0 u → Cl u0 u sv L → Calls Tryd.prog 24 #[.bool (neg), sv, .int .i64 (x)] u fun e w' => (∃ v, e = .returned v ∧ New u0 w' v r) ∧ Kept u0 w') := fun u0 u sv k0 k1 hc => form_cl_ok (neg) L hL hlen sv (x) u0 u k1 hc (hT.kept (k0.trans k1)) r hf
  clear c0 c1 c2 h hT hf
  generalize L.length = n at *
  have hD : Kept (numW w) (numW w).drew := (Kept.refl _).drew
  have HS : Hid (∀ u, Kept w u → Kept w u ∧ u.cell? ⟨p, 0, none⟩ = some (.bool neg) ∧ u.cell? ⟨q, 0, none⟩ = some (.slice ao n cap) ∧ u.cell? ⟨s, 0, none⟩ = some (.int .i64 x)) := fun u k => ⟨k, C0.out u k, C1.out u k, C2.out u k⟩
  go_enter Tryd.func23, Tryd.ntmps23
  go_wp2
  go_region_held (fun u => Kept w u ∧ u.cell? ⟨p, 0, none⟩ = some (.bool neg) ∧ u.cell? ⟨q, 0, none⟩ = some (.slice ao n cap) ∧ u.cell? ⟨s, 0, none⟩ = some (.int .i64 x)) (first | exact HS.out _ hK.drew | assumption | exact HS.out _ ((num_done hN k2 _ _ _).2)) (first | (go_at_call 25; refine (KC.out _ hK.drew).mono ?_; rintro e u1 ⟨⟨sv, rfl, hcl⟩, k1⟩; have e0 := HS.out _ (hK.drew.trans k1)) | (go_at_call 24; refine (KF.out (numW w) _ _ hK (hD.trans k1) (hcl.from hD)).mono ?_; rintro e u2 ⟨⟨v, rfl, hN⟩, k2⟩; obtain ⟨f0, f1, f2, f3⟩ := num_cells k2; obtain ⟨vn, va, vl, vc, vx, rfl⟩ := hN.shape; have e0 := HS.out _ (hK.trans k2)))
  all_goals
    go_wp2
    refine bodyPost_ret (v := .agg #[.bool vn, .slice va vl vc, .int .i64 vx]) (by simp [results, Tryd.results23, go_sem, f0, f1, f2]) rfl ?_
    have := num_done hN k2 (.bool vn) (.slice va vl vc) (.int .i64 vx)
    exact ⟨⟨_, rfl, this.1⟩, this.2⟩

end Go.Proofs.YtbffekcjdcihpaaDoor

namespace Go.Proofs.YtbffekcjdcihpaaDoor
open Go.ChangeShapes Go.WideShapes Go.ChangeAt Go.RowKit
set_option linter.unusedVariables false
set_option linter.unusedSimpArgs false

theorem call_of {P : Program} {f : FuncId} {fn : Func} (hf : P.funcs[f]? = some fn) (h1 : (fn.name == "runtime.NumGoroutine") = false) (h2 : fn.body.isNone = false) (caps : Array Value) (w : World) : (callFunc f caps).run P w = .ok (.enter f caps) w := by
  have h3 : ¬ fn.name = "runtime.NumGoroutine" := by simpa using h1
  have h4 : ¬ fn.body = none := by intro h; rw [h] at h2; cases h2
  simp [callFunc, hf, go_sem, h3, h4]

/-- What a result's cells hold at the end: the block H is the result's own, laid before the call. -/
theorem res_cells {W w1 : World} (H : Nat) (hH : H < W.heap.size) (h : Kept W w1) (c0 : W.cell? ⟨H, 0, none⟩ = some (.bool false)) (c1 : W.cell? ⟨H, 1, none⟩ = some (.slice none 0 0)) (c2 : W.cell? ⟨H, 2, none⟩ = some (.int .i64 0)) (f : ∀ o, W.frozen? ⟨H, o, none⟩ = false) : w1.cell? ⟨H, 0, none⟩ = some (.bool false) ∧ w1.cell? ⟨H, 1, none⟩ = some (.slice none 0 0) ∧ w1.cell? ⟨H, 2, none⟩ = some (.int .i64 0) ∧ (∀ o, w1.frozen? ⟨H, o, none⟩ = false) :=
  ⟨(h.below.cell (p := ⟨H, 0, none⟩) hH).trans c0, (h.below.cell (p := ⟨H, 1, none⟩) hH).trans c1, (h.below.cell (p := ⟨H, 2, none⟩) hH).trans c2, fun o => (h.frozen _).trans (f o)⟩
theorem res_done {w W u2 : World} {v : Value} {r : Nm} (H : Nat) (hw : w.heap.size ≤ H) (hH : H < W.heap.size) (h0 : Kept w W) (hN : New W u2 v r) (hk : Kept W u2) (a b c : Value) : New w (((u2.setCell ⟨H, 0, none⟩ a).setCell ⟨H, 1, none⟩ b).setCell ⟨H, 2, none⟩ c) v r ∧ Kept w (((u2.setCell ⟨H, 0, none⟩ a).setCell ⟨H, 1, none⟩ b).setCell ⟨H, 2, none⟩ c) := by
  constructor
  · rcases hN with h | ⟨g, cap, e, hg, ho, hne⟩
    · exact .inl h
    · exact .inr ⟨g, cap, e, by omega, ((ho.setOther (by simp; omega) _).setOther (by simp; omega) _).setOther (by simp; omega) _, hne⟩
  · exact (h0.trans hk).setCell (by simpa using hw) _ |>.setCell (by simpa using hw) _ |>.setCell (by simpa using hw) _
theorem res_kept {w W u2 : World} (H : Nat) (hw : w.heap.size ≤ H) (h0 : Kept w W) (hk : Kept W u2) (a b c : Value) : Kept w (((u2.setCell ⟨H, 0, none⟩ a).setCell ⟨H, 1, none⟩ b).setCell ⟨H, 2, none⟩ c) :=
  (h0.trans hk).setCell (by simpa using hw) _ |>.setCell (by simpa using hw) _ |>.setCell (by simpa using hw) _

abbrev nilNum : Obj := .cells #[.bool false, .slice none 0 0, .int .i64 0] 24
abbrev makeW (w : World) (neg : Bool) (sv : Value) (x : Int) : World := (((w.alloc (.cells #[.bool neg] 4)).alloc (.cells #[sv] 22)).alloc (.cells #[.int .i64 x] 3)).alloc nilNum
theorem makeW_kept (w : World) (neg : Bool) (sv : Value) (x : Int) : Kept w (makeW w neg sv x) := ((((Kept.refl w).alloc _ _).alloc _ _).alloc _ _).alloc _ _

set_option maxHeartbeats 1000000 in
set_option maxRecDepth 100000 in
theorem make_ok (neg : Bool) (L : List Int) (hL : Dg L) (hlen : L.length ≤ 2000) (ao : Option Addr) (cap : Nat) (hcap : ao = none → cap = 0) (x : Int) (r : Nm) (hf : frm neg (nv L) x = some r) (w : World) (h : Sl w (.slice ao L.length cap) L) (hT : Tab w) : Calls Tryd.prog 6 #[.bool neg, .slice ao L.length cap, .int .i64 x] w fun e w' => ∃ v, e = .returned (.tuple #[v, .int .i64 0]) ∧ New w w' v r ∧ Kept w w' := by
  have hW := makeW_kept w neg (.slice ao L.length cap) x
  have KA : Hid (Calls Tryd.prog 21 #[.slice ao L.length cap] (makeW w neg (.slice ao L.length cap) x) fun e w' => e = .returned (.bool true) ∧ (makeW w neg (.slice ao L.length cap) x) = w') := by
    have := areDigits_any L hL.rg (by omega) _ _ (h.kept hW)
    rw [(dgb_iff L).2 hL] at this
    exact this
  have KT : Hid (Calls Tryd.prog 22 #[.func (.func 23) #[] #[.pointer (some ⟨w.heap.size, 0, none⟩), .pointer (some ⟨w.heap.size + 1, 0, none⟩), .pointer (some ⟨w.heap.size + 2, 0, none⟩)], .slice none 0 0] (makeW w neg (.slice ao L.length cap) x) fun e w' => ∃ v, e = .returned (.tuple #[v, .int .i64 0]) ∧ New (makeW w neg (.slice ao L.length cap) x) w' v r ∧ Kept (makeW w neg (.slice ao L.length cap) x) w') := by
    refine told_ok 23 _ (fun w => call_of Tryd.func23 (by kernel_rfl) (by kernel_rfl) _ w) _ r _ (fun u k => allValid_0 u) (fun u k => ?_)
    have hs := k.below.size
    simp only [makeW, World.size_alloc] at hs
    exact make_in_ok neg x L hL (by omega) ao cap hcap r hf _ _ _ u (by omega) (by omega) (by omega) ((h.kept hW).kept k) ((hT.kept hW).kept k) ((k.below.cell (p := ⟨w.heap.size, 0, none⟩) (by simp; omega)).trans (by simp [go_sem])) ((k.below.cell (p := ⟨w.heap.size + 1, 0, none⟩) (by simp <;> omega)).trans (by simp [go_sem])) ((k.below.cell (p := ⟨w.heap.size + 2, 0, none⟩) (by simp)).trans (by simp [go_sem]))
  have hlen2 : (L.length : Int) ≤ 2000 := by omega
  have hmf : ∀ (fn : Fn) (first cap : Array Value) (w : World), (Instr.makeFunc fn first cap).run Tryd.prog w = .ok (.func fn first cap) w := fun _ _ _ _ => rfl
  clear h hT hf hL hlen
  generalize L.length = n at *
  go_enter Tryd.func6, Tryd.ntmps6
  go_wp2_with (first | (go_at_call 21; refine KA.out.mono ?_; rintro e w1 ⟨rfl, rfl⟩) | (go_at_call 22; refine KT.out.mono ?_; rintro e w1 ⟨v, rfl, hN, hk1⟩; obtain ⟨vn, va, vl, vc, vx, rfl⟩ := hN.shape; obtain ⟨f0, f1, f2, f3⟩ := res_cells (w.heap.size + 3) (by simp) hk1 (by simp [go_sem]) (by simp [go_sem]) (by simp [go_sem]) (fun o => by simp [go_sem])))
  have := res_done (w.heap.size + 3) (by omega) (by simp) hW hN hk1 (.bool vn) (.slice va vl vc) (.int .i64 vx)
  refine bodyPost_ret (v := .tuple #[.agg #[.bool vn, .slice va vl vc, .int .i64 vx], .int .i64 0]) (by simp [results, Tryd.results6, go_sem, f0, f1, f2]) rfl ⟨_, rfl, this.1, this.2⟩

end Go.Proofs.YtbffekcjdcihpaaDoor

namespace Go.Proofs.YtbffekcjdcihpaaDoor
open Go.ChangeShapes Go.WideShapes Go.ChangeAt Go.RowKit
set_option linter.unusedVariables false
set_option linter.unusedSimpArgs false

theorem and_one (d : Int) : bits .and .i64 d 1 = d % 2 := by
  have e : (BitVec.ofInt 64 1 : BitVec 64).toNat = 2 ^ 1 - 1 := by decide
  have h := ofInt_toNat d
  rw [bits_and, BitVec.toNat_and, e, Nat.and_two_pow_sub_one_eq_mod, wrap_i64]
  omega

/-- What a valid number that is not 0 says of itself. -/
theorem vld_some (neg : Bool) (L : List Int) (x : Int) (hne : L ≠ []) (h : vld ⟨neg, L, x⟩ = true) : L.length ≤ 2000 ∧ Dg L ∧ L.getD (L.length - 1) 0 ≠ 0 ∧ L.getD 0 0 % 2 = 1 ∧ -1048576 ≤ x ∧ x ≤ 1048576 := by
  unfold vld vldN at h
  simp only [hne, if_false, Bool.and_eq_true, decide_eq_true_eq, bne_iff_ne, beq_iff_eq, and_one] at h
  obtain ⟨⟨⟨⟨⟨h1, h2⟩, h3⟩, h4⟩, h5⟩, h6⟩ := h
  exact ⟨by omega, (dgb_iff L).1 h2, h3, h4, h5, h6⟩
theorem vld_dg (neg : Bool) (L : List Int) (x : Int) (h : vld ⟨neg, L, x⟩ = true) : L.length ≤ 2000 ∧ Dg L := by
  by_cases hne : L = []
  · subst hne; exact ⟨by simp, Dg.nil⟩
  · have := vld_some neg L x hne h
    exact ⟨this.1, this.2.1⟩
theorem nv_odd (L : List Int) (hL : Dg L) (h : L.getD 0 0 % 2 = 1) : nv L % 2 = 1 := by
  have h1 := nv_getD L hL 0
  have h2 := hL.getD 0
  rw [Nat.mul_zero, Nat.pow_zero, Nat.div_one] at h1
  omega
theorem frm_odd (neg b : Bool) (L : List Int) (x y : Int) (hne : L ≠ []) (h : vld ⟨neg, L, x⟩ = true) : frm b (nv L) y = if -1048576 ≤ wrap64 y ∧ wrap64 y ≤ 1048576 then some ⟨b, L, wrap64 y⟩ else none := by
  obtain ⟨h1, h2, h3, h4, h5, h6⟩ := vld_some neg L x hne h
  have ho := nv_odd L h2 h4
  have hz := tzn_odd _ ho
  have hb := bl_le _ _ (nv_lt L h2)
  have hd := digs_nv L h2 (.inr h3)
  unfold frm
  rw [if_neg (by omega), hz]
  simp only [Nat.pow_zero, Nat.div_one, hd, Int.natCast_zero, Int.add_zero, Nat.sub_zero]
  by_cases hy : -1048576 ≤ wrap64 y ∧ wrap64 y ≤ 1048576
  · rw [if_pos hy, if_pos ⟨by omega, hy⟩]
  · rw [if_neg hy, if_neg (fun hh => hy hh.2)]
/-- All that is handed in is looked at: one number, behind the call's own blocks. -/
theorem allValid_at {W : World} (b : Nat) (hb : b < W.heap.size) (neg : Bool) (L : List Int) (hR : Rg L) (hlen : L.length < 100000000) (ao : Option Addr) (cap : Nat) (x : Int) (h : Sl W (.slice ao L.length cap) L) (c0 : W.cell? ⟨b, 0, none⟩ = some (.bool neg)) (c1 : W.cell? ⟨b, 1, none⟩ = some (.slice ao L.length cap)) (c2 : W.cell? ⟨b, 2, none⟩ = some (.int .i64 x)) (g : Bool) (hg : vld ⟨neg, L, x⟩ = g) :
    Hid (∀ w', Kept W w' → Calls Tryd.prog 43 #[.slice (some ⟨b, 0, none⟩) 1 1] w' fun e w'' => e = .returned (.bool g) ∧ Kept w' w'') := fun w' k => by
  subst hg
  refine allValid_1 w' b 1 neg ao L.length cap x _ (Nat.lt_of_lt_of_le hb k.below.size) ((k.below.cell (p := ⟨b, 0, none⟩) hb).trans c0) ((k.below.cell (p := ⟨b, 1, none⟩) hb).trans c1) ((k.below.cell (p := ⟨b, 2, none⟩) hb).trans c2) (fun u ku => ?_)
  exact xvalid_any ⟨neg, L, x⟩ hR hlen _ u ⟨_, rfl, (h.kept k).kept ku⟩

end Go.Proofs.YtbffekcjdcihpaaDoor

namespace Go.Proofs.YtbffekcjdcihpaaDoor
open Go.ChangeShapes Go.WideShapes Go.ChangeAt Go.RowKit
set_option linter.unusedVariables false
set_option linter.unusedSimpArgs false

def tot (a b : Nm) (lo : Int) : Int := sg a.neg ((nv a.mag : Int) * 2 ^ (a.exp - lo).toNat) + sg b.neg ((nv b.mag : Int) * 2 ^ (b.exp - lo).toNat)
def tp (a : Nm) : Int := a.exp + (bl (nv a.mag) : Int)
def addN (a b : Nm) : Option Nm :=
  if max (tp a) (tp b) - min a.exp b.exp ≤ 60001 then frm (decide (tot a b (min a.exp b.exp) < 0)) (tot a b (min a.exp b.exp)).natAbs (min a.exp b.exp) else none

theorem nv_bl_mul (L : List Int) (k : Nat) : (0 : Int) ≤ (nv L : Int) * 2 ^ k ∧ (nv L : Int) * 2 ^ k < 2 ^ (bl (nv L) + k) := by
  have h := bl_lt (nv L)
  have hp := Nat.two_pow_pos k
  have h1 : nv L * 2 ^ k < 2 ^ (bl (nv L) + k) := by
    rw [Nat.pow_add]
    exact Nat.mul_lt_mul_of_lt_of_le h (Nat.le_refl _) hp
  have e : ((nv L * 2 ^ k : Nat) : Int) = (nv L : Int) * 2 ^ k := by rw [Int.natCast_mul, Int.natCast_pow]; rfl
  have e2 : ((2 ^ (bl (nv L) + k) : Nat) : Int) = (2 : Int) ^ (bl (nv L) + k) := by rw [Int.natCast_pow]; rfl
  rw [← e, ← e2]
  omega
theorem pow_le_int (a b : Nat) (h : a ≤ b) : (2 : Int) ^ a ≤ 2 ^ b := by
  have h1 : 2 ^ a ≤ 2 ^ b := Nat.pow_le_pow_right (by decide) h
  have e : ((2 ^ a : Nat) : Int) ≤ ((2 ^ b : Nat) : Int) := by omega
  rw [Int.natCast_pow, Int.natCast_pow] at e
  exact e

theorem len_bl (L : List Int) (hL : Dg L) (hne : L ≠ []) (hl : L.getD (L.length - 1) 0 ≠ 0) : 30 * L.length ≤ bl (nv L) + 29 ∧ bl (nv L) ≤ 30 * L.length := by
  have h1 := le_bl _ _ (nv_ge L hL hl)
  have h2 := bl_le _ _ (nv_lt L hL)
  have := List.length_pos_iff.2 hne
  omega

theorem sum_main (w : World) (T : Nat) (hTw : T < w.heap.size) (hTab : Tab w)
    (n1 : Bool) (L1 : List Int) (x1 : Int) (hne1 : L1 ≠ []) (hv1 : vld ⟨n1, L1, x1⟩ = true) (a1 : Option Addr) (c1 : Nat) (h1 : Sl w (.slice a1 L1.length c1) L1)
    (n2 : Bool) (L2 : List Int) (x2 : Int) (hne2 : L2 ≠ []) (hv2 : vld ⟨n2, L2, x2⟩ = true) (a2 : Option Addr) (c2 : Nat) (h2 : Sl w (.slice a2 L2.length c2) L2)
    (d0 : w.cell? ⟨T, 0, none⟩ = some (.bool n1)) (d1 : w.cell? ⟨T, 1, none⟩ = some (.slice a1 L1.length c1)) (d2 : w.cell? ⟨T, 2, none⟩ = some (.int .i64 x1))
    (d3 : w.cell? ⟨T, 3, none⟩ = some (.bool n2)) (d4 : w.cell? ⟨T, 4, none⟩ = some (.slice a2 L2.length c2)) (d5 : w.cell? ⟨T, 5, none⟩ = some (.int .i64 x2)) (Res : Option Nm) (hRes : addN ⟨n1, L1, x1⟩ ⟨n2, L2, x2⟩ = Res) :
    Calls Tryd.prog 27 #[.slice (some ⟨T, 0, none⟩) 2 2] w fun e w' => ToldR Res w w' e ∧ Kept w w' := by
  obtain ⟨p1, p2, p3, p4, p5, p6⟩ := vld_some n1 L1 x1 hne1 hv1
  obtain ⟨q1, q2, q3, q4, q5, q6⟩ := vld_some n2 L2 x2 hne2 hv2
  have b1 := len_bl L1 p2 hne1 p3
  have b2 := len_bl L2 q2 hne2 q3
  have l1 := List.length_pos_iff.2 hne1
  have l2 := List.length_pos_iff.2 hne2
  have KT1 : Hid (∀ u, Kept w u → Calls Tryd.prog 49 #[.agg #[.bool n1, .slice a1 L1.length c1, .int .i64 x1]] u fun e w' => e = .returned (.int .i64 (x1 + (bl (nv L1) : Int))) ∧ Kept u w') := fun u k => top_any n1 L1 ⟨p2, fun _ => p3⟩ (by omega) a1 c1 x1 p5 p6 u (h1.kept k)
  have KT2 : Hid (∀ u, Kept w u → Calls Tryd.prog 49 #[.agg #[.bool n2, .slice a2 L2.length c2, .int .i64 x2]] u fun e w' => e = .returned (.int .i64 (x2 + (bl (nv L2) : Int))) ∧ Kept u w') := fun u k => top_any n2 L2 ⟨q2, fun _ => q3⟩ (by omega) a2 c2 x2 q5 q6 u (h2.kept k)
  obtain ⟨lo, hlo⟩ : ∃ lo, min x1 x2 = lo := ⟨_, rfl⟩
  obtain ⟨hi, hhi⟩ : ∃ hi, max (x1 + (bl (nv L1) : Int)) (x2 + (bl (nv L2) : Int)) = hi := ⟨_, rfl⟩
  obtain ⟨R, hR⟩ : ∃ R : Nat, max 0 (hi - lo) = (R : Int) := ⟨(max 0 (hi - lo)).toNat, by omega⟩
  unfold addN tp at hRes
  dsimp only at hRes
  rw [hlo, hhi] at hRes
  by_cases hfar : 60001 < R
  · rw [if_neg (by omega)] at hRes
    subst hRes
    refine (sum_far w T hTw n1 a1 L1.length c1 x1 _ ⟨p5, p6⟩ ⟨by omega, by omega⟩ l1 (by omega) KT1 n2 a2 L2.length c2 x2 _ ⟨q5, q6⟩ ⟨by omega, by omega⟩ l2 (by omega) KT2 lo hi hlo hhi R hR hfar d0 d1 d2 d3 d4 d5).mono ?_
    rintro e w' ⟨rfl, k⟩
    exact ⟨rfl, k⟩
  · rw [if_pos (by omega)] at hRes
    obtain ⟨n, hn⟩ : ∃ n : Nat, (R : Int) / 30 + 2 = (n : Int) := ⟨R / 30 + 2, by omega⟩
    obtain ⟨f1, hf1⟩ : ∃ f : Nat, (x1 - lo) / 30 = (f : Int) := ⟨((x1 - lo) / 30).toNat, by omega⟩
    obtain ⟨f2, hf2⟩ : ∃ f : Nat, (x2 - lo) / 30 = (f : Int) := ⟨((x2 - lo) / 30).toNat, by omega⟩
    obtain ⟨s1, hs1⟩ : ∃ f : Nat, (x1 - lo) % 30 = (f : Int) := ⟨((x1 - lo) % 30).toNat, by omega⟩
    obtain ⟨s2, hs2⟩ : ∃ f : Nat, (x2 - lo) % 30 = (f : Int) := ⟨((x2 - lo) % 30).toNat, by omega⟩
    have e1 : x1 - lo = 30 * (f1 : Int) + (s1 : Int) := by omega
    have e2 : x2 - lo = 30 * (f2 : Int) + (s2 : Int) := by omega
    have g1 : f1 + L1.length < n := by omega
    have g2 : f2 + L2.length < n := by omega
    obtain ⟨C1, hC1⟩ : ∃ C, layL (List.replicate n 0) f1 (dsh n1 s1 L1) = C := ⟨_, rfl⟩
    obtain ⟨C2, hC2⟩ : ∃ C, layL C1 f2 (dsh n2 s2 L2) = C := ⟨_, rfl⟩
    have lC1 : C1.length = n := by rw [← hC1, layL_length, List.length_replicate]
    have lC2 : C2.length = n := by rw [← hC2, layL_length, lC1]
    have bC1 : ∀ j, -2147483648 ≤ C1.getD j 0 ∧ C1.getD j 0 ≤ 2147483648 := by
      have := layL_bound (List.replicate n 0) f1 (dsh n1 s1 L1) 0 (by omega) (by rw [dsh_length, List.length_replicate]; omega) (dsh_bound n1 s1 (by omega) L1 p2) (fun j _ => by rw [getD_replicate]; omega) (by rw [getD_replicate]; omega) (fun j _ => by rw [getD_replicate]; omega)
      rw [hC1] at this
      intro j
      have := this j
      omega
    have bC2 : ∀ j, -4294967296 ≤ C2.getD j 0 ∧ C2.getD j 0 ≤ 4294967296 := by
      have := layL_bound C1 f2 (dsh n2 s2 L2) 2147483648 (by omega) (by rw [dsh_length, lC1]; omega) (dsh_bound n2 s2 (by omega) L2 q2) (fun j _ => by have := bC1 j; omega) (by have := bC1 f2; omega) (fun j _ => bC1 j)
      rw [hC2] at this
      intro j
      have := this j
      omega
    have hval : cv C2 = tot ⟨n1, L1, x1⟩ ⟨n2, L2, x2⟩ lo := by
      rw [← hC2, layL_val _ _ _ (by rw [dsh_length, lC1]; omega), ← hC1, layL_val _ _ _ (by rw [dsh_length, List.length_replicate]; omega), nv_replicate, dsh_val _ _ _ p2, dsh_val _ _ _ q2, sg_mul, sg_mul]
      unfold tot
      dsimp only
      rw [show (x1 - lo).toNat = 30 * f1 + s1 by omega, show (x2 - lo).toNat = 30 * f2 + s2 by omega, pow_add_int, pow_add_int, Int.mul_left_comm, Int.mul_left_comm ((2 : Int) ^ (30 * f2)), Int.zero_add]
    have hT1 := nv_bl_mul L1 (x1 - lo).toNat
    have hT2 := nv_bl_mul L2 (x2 - lo).toNat
    have hP1 := pow_le_int (bl (nv L1) + (x1 - lo).toNat) R (by omega)
    have hP2 := pow_le_int (bl (nv L2) + (x2 - lo).toNat) R (by omega)
    have hP3 := pow_le_int (R + 1) (30 * n) (by omega)
    rw [Int.pow_succ] at hP3
    have hS1 := sg_abs n1 _ _ hT1.1 hT1.2
    have hS2 := sg_abs n2 _ _ hT2.1 hT2.2
    have hTt : -(2 : Int) ^ (30 * n) < tot ⟨n1, L1, x1⟩ ⟨n2, L2, x2⟩ lo ∧ tot ⟨n1, L1, x1⟩ ⟨n2, L2, x2⟩ lo < (2 : Int) ^ (30 * n) := by
      unfold tot
      dsimp only
      omega
    generalize htt : tot ⟨n1, L1, x1⟩ ⟨n2, L2, x2⟩ lo = tt at *
    refine sum_NN w T hTw n1 a1 L1.length c1 x1 _ ⟨p5, p6⟩ ⟨by omega, by omega⟩ l1 (by omega) KT1 n2 a2 L2.length c2 x2 _ ⟨q5, q6⟩ ⟨by omega, by omega⟩ l2 (by omega) KT2 lo hi hlo hhi R n hR (by omega) hn C1 C2 ?_ ?_ Res ?_ d0 d1 d2 d3 d4 d5
    · intro u g k hg ho
      obtain ⟨ao, cap, e, hc, hm, hr⟩ := h1.kept k
      cases e
      obtain ⟨b, off, rfl, hb, hr⟩ := hr hne1
      obtain ⟨ao', cap', e', -, -, hr0⟩ := h1
      cases e'
      obtain ⟨b', off', e2', hb', -⟩ := hr0 hne1
      cases e2'
      have := lay_some (List.replicate n 0) g n n1 L1 p2 b off c1 x1 (x1 - lo) f1 s1 (by omega) e1 (by rw [List.length_replicate]; exact g1) (by rw [List.length_replicate]; omega) (fun j => by rw [getD_replicate]; omega) (by omega) u hb hr ho
      rw [List.length_replicate, hC1] at this
      exact this
    · intro u g k hg ho
      obtain ⟨ao, cap, e, hc, hm, hr⟩ := h2.kept k
      cases e
      obtain ⟨b, off, rfl, hb, hr⟩ := hr hne2
      obtain ⟨ao', cap', e', -, -, hr0⟩ := h2
      cases e'
      obtain ⟨b', off', e2', hb', -⟩ := hr0 hne2
      cases e2'
      have := lay_some C1 g n n2 L2 q2 b off c2 x2 (x2 - lo) f2 s2 (by omega) e2 (by rw [lC1]; exact g2) (by rw [lC1]; omega) (fun j => by have := bC1 j; omega) (by omega) u hb hr ho
      rw [lC1, hC2] at this
      exact this
    · intro u0 u g k0 k1 hg ho
      exact settled_any u n n g lo C2 lC2 (by omega) (fun j => by have := bC2 j; omega) tt hval hTt.1 hTt.2 u0 (hTab.kept k0) k1 hg ho Res hRes
end Go.Proofs.YtbffekcjdcihpaaDoor

namespace Go.Proofs.YtbffekcjdcihpaaDoor
open Go.ChangeShapes Go.WideShapes Go.ChangeAt Go.RowKit
set_option linter.unusedVariables false
set_option linter.unusedSimpArgs false

def addZ (a b : Nm) : Option Nm := if a.mag = [] then (if b.mag = [] then some ⟨false, [], 0⟩ else some b) else if b.mag = [] then some a else addN a b

theorem sg_neg (n : Bool) (a : Int) (h : 0 < a) : decide (sg n a < 0) = n ∧ (sg n a).natAbs = a.toNat := by
  cases n <;> simp [sg] <;> omega

theorem wrap64_id (x : Int) (h1 : -1048576 ≤ x) (h2 : x ≤ 1048576) : wrap64 x = x := by unfold wrap64; omega
theorem vld_zero (n : Bool) (L : List Int) (x : Int) (h : vld ⟨n, L, x⟩ = true) : L = [] → x = 0 := by
  rintro rfl
  simp [vld] at h
  exact h.2

/-- A number that lies alone in its columns. -/
theorem alone (n1 : Bool) (L1 : List Int) (x1 : Int) (hne1 : L1 ≠ []) (hv1 : vld ⟨n1, L1, x1⟩ = true) (n : Nat) (hn : L1.length < n) (C : List Int) (hC : layL (List.replicate n 0) 0 (dsh n1 0 L1) = C) :
    C.length = n ∧ (∀ j, -2147483648 ≤ C.getD j 0 ∧ C.getD j 0 ≤ 2147483648) ∧ cv C = sg n1 (nv L1) ∧ -(2 : Int) ^ (30 * n) < sg n1 (nv L1) ∧ sg n1 (nv L1) < (2 : Int) ^ (30 * n) ∧ frm (decide (sg n1 (nv L1) < 0)) (sg n1 (nv L1)).natAbs x1 = some ⟨n1, L1, x1⟩ := by
  obtain ⟨p1, p2, p3, p4, p5, p6⟩ := vld_some n1 L1 x1 hne1 hv1
  have l1 := List.length_pos_iff.2 hne1
  have b1 := len_bl L1 p2 hne1 p3
  have hpos : 0 < nv L1 := by
    rcases Nat.eq_zero_or_pos (nv L1) with h | h
    · exact absurd ((nv_zero L1 p2).1 h (L1.length - 1)) p3
    · exact h
  have hsg := sg_neg n1 (nv L1 : Int) (by omega)
  have hlt := nv_lt L1 p2
  have hP := pow_le_int (30 * L1.length) (30 * n) (by omega)
  have e : ((2 ^ (30 * L1.length) : Nat) : Int) = (2 : Int) ^ (30 * L1.length) := by rw [Int.natCast_pow]; rfl
  have hlt2 : (nv L1 : Int) < (2 : Int) ^ (30 * L1.length) := by rw [← e]; omega
  have hS := sg_abs n1 (nv L1 : Int) _ (by omega) hlt2
  refine ⟨by rw [← hC, layL_length, List.length_replicate], ?_, ?_, by omega, by omega, ?_⟩
  · have := layL_bound (List.replicate n 0) 0 (dsh n1 0 L1) 0 (by omega) (by rw [dsh_length, List.length_replicate]; omega) (dsh_bound n1 0 (by omega) L1 p2) (fun j _ => by rw [getD_replicate]; omega) (by rw [getD_replicate]; omega) (fun j _ => by rw [getD_replicate]; omega)
    rw [hC] at this
    intro j
    have := this j
    omega
  · rw [← hC, layL_val _ _ _ (by rw [dsh_length, List.length_replicate]; omega), nv_replicate, dsh_val _ _ _ p2]
    simp
  · rw [hsg.1, hsg.2, Int.toNat_natCast]
    rw [frm_odd n1 n1 L1 x1 x1 hne1 hv1, wrap64_id x1 p5 p6, if_pos ⟨p5, p6⟩]

theorem sum_any (w : World) (T : Nat) (hTw : T < w.heap.size) (hTab : Tab w)
    (n1 : Bool) (L1 : List Int) (x1 : Int) (hv1 : L1 ≠ [] → vld ⟨n1, L1, x1⟩ = true) (hz1 : L1 = [] → x1 = 0) (a1 : Option Addr) (c1 : Nat) (h1 : Sl w (.slice a1 L1.length c1) L1)
    (n2 : Bool) (L2 : List Int) (x2 : Int) (hv2 : L2 ≠ [] → vld ⟨n2, L2, x2⟩ = true) (hz2 : L2 = [] → x2 = 0) (a2 : Option Addr) (c2 : Nat) (h2 : Sl w (.slice a2 L2.length c2) L2)
    (d0 : w.cell? ⟨T, 0, none⟩ = some (.bool n1)) (d1 : w.cell? ⟨T, 1, none⟩ = some (.slice a1 L1.length c1)) (d2 : w.cell? ⟨T, 2, none⟩ = some (.int .i64 x1))
    (d3 : w.cell? ⟨T, 3, none⟩ = some (.bool n2)) (d4 : w.cell? ⟨T, 4, none⟩ = some (.slice a2 L2.length c2)) (d5 : w.cell? ⟨T, 5, none⟩ = some (.int .i64 x2)) (Res : Option Nm) (hRes : addZ ⟨n1, L1, x1⟩ ⟨n2, L2, x2⟩ = Res) :
    Calls Tryd.prog 27 #[.slice (some ⟨T, 0, none⟩) 2 2] w fun e w' => ToldR Res w w' e ∧ Kept w w' := by
  unfold addZ at hRes
  dsimp only at hRes
  by_cases e1 : L1 = []
  · rw [if_pos e1] at hRes
    by_cases e2 : L2 = []
    · rw [if_pos e2] at hRes
      have hx1 := hz1 e1
      have hx2 := hz2 e2
      subst e1 e2 hx1 hx2
      refine sum_EE w T hTw n1 a1 0 c1 0 0 (by omega) (by omega) rfl n2 a2 0 c2 0 0 (by omega) (by omega) rfl (List.replicate 2 0) (List.replicate 2 0) rfl rfl Res ?_ d0 d1 d2 d3 d4 d5
      intro u0 u g k0 k1 hg ho
      exact settled_any u 2 2 g 1048576 (List.replicate 2 0) (by simp) (by omega) (fun j => by rw [getD_replicate]; omega) 0 (nv_replicate 2) (by decide) (by decide) u0 (hTab.kept k0) k1 hg ho Res (by rw [← hRes]; simp [frm])
    · rw [if_neg e2] at hRes
      have hx1 := hz1 e1
      have hv := hv2 e2
      obtain ⟨q1, q2, q3, q4, q5, q6⟩ := vld_some n2 L2 x2 e2 hv
      have b2 := len_bl L2 q2 e2 q3
      have l2 := List.length_pos_iff.2 e2
      have KT2 : Hid (∀ u, Kept w u → Calls Tryd.prog 49 #[.agg #[.bool n2, .slice a2 L2.length c2, .int .i64 x2]] u fun e w' => e = .returned (.int .i64 (x2 + (bl (nv L2) : Int))) ∧ Kept u w') := fun u k => top_any n2 L2 ⟨q2, fun _ => q3⟩ (by omega) a2 c2 x2 q5 q6 u (h2.kept k)
      subst e1 hx1
      obtain ⟨n, hn⟩ : ∃ n : Nat, ((bl (nv L2) : Nat) : Int) / 30 + 2 = (n : Int) := ⟨bl (nv L2) / 30 + 2, by omega⟩
      obtain ⟨C, hC⟩ : ∃ C, layL (List.replicate n 0) 0 (dsh n2 0 L2) = C := ⟨_, rfl⟩
      obtain ⟨lC, bC, vC, tC1, tC2, fC⟩ := alone n2 L2 x2 e2 hv n (by omega) C hC
      refine sum_EN w T hTw n1 a1 0 c1 0 0 (by omega) (by omega) rfl n2 a2 L2.length c2 x2 _ ⟨q5, q6⟩ ⟨by omega, by omega⟩ l2 (by omega) KT2 (bl (nv L2)) n (by omega) (by omega) hn (List.replicate n 0) C rfl ?_ Res ?_ d0 d1 d2 d3 d4 d5
      · intro u g k hg ho
        obtain ⟨ao, cap, e, hc, hm, hr⟩ := h2.kept k
        cases e
        obtain ⟨b, off, rfl, hb, hr⟩ := hr e2
        obtain ⟨ao', cap', e', -, -, hr0⟩ := h2
        cases e'
        obtain ⟨b', off', e2', hb', -⟩ := hr0 e2
        cases e2'
        have := lay_some (List.replicate n 0) g n n2 L2 q2 b off c2 x2 0 0 0 (by omega) (by omega) (by rw [List.length_replicate]; omega) (by rw [List.length_replicate]; omega) (fun j => by rw [getD_replicate]; omega) (by omega) u hb hr ho
        rw [List.length_replicate, hC] at this
        exact this
      · intro u0 u g k0 k1 hg ho
        exact settled_any u n n g x2 C lC (by omega) (fun j => by have := bC j; omega) _ vC tC1 tC2 u0 (hTab.kept k0) k1 hg ho Res (by rw [← hRes]; exact fC)
  · rw [if_neg e1] at hRes
    by_cases e2 : L2 = []
    · rw [if_pos e2] at hRes
      have hx2 := hz2 e2
      have hv := hv1 e1
      obtain ⟨q1, q2, q3, q4, q5, q6⟩ := vld_some n1 L1 x1 e1 hv
      have b2 := len_bl L1 q2 e1 q3
      have l2 := List.length_pos_iff.2 e1
      have KT1 : Hid (∀ u, Kept w u → Calls Tryd.prog 49 #[.agg #[.bool n1, .slice a1 L1.length c1, .int .i64 x1]] u fun e w' => e = .returned (.int .i64 (x1 + (bl (nv L1) : Int))) ∧ Kept u w') := fun u k => top_any n1 L1 ⟨q2, fun _ => q3⟩ (by omega) a1 c1 x1 q5 q6 u (h1.kept k)
      subst e2 hx2
      obtain ⟨n, hn⟩ : ∃ n : Nat, ((bl (nv L1) : Nat) : Int) / 30 + 2 = (n : Int) := ⟨bl (nv L1) / 30 + 2, by omega⟩
      obtain ⟨C, hC⟩ : ∃ C, layL (List.replicate n 0) 0 (dsh n1 0 L1) = C := ⟨_, rfl⟩
      obtain ⟨lC, bC, vC, tC1, tC2, fC⟩ := alone n1 L1 x1 e1 hv n (by omega) C hC
      refine sum_NE w T hTw n1 a1 L1.length c1 x1 _ ⟨q5, q6⟩ ⟨by omega, by omega⟩ l2 (by omega) KT1 n2 a2 0 c2 0 0 (by omega) (by omega) rfl (bl (nv L1)) n (by omega) (by omega) hn C C ?_ rfl Res ?_ d0 d1 d2 d3 d4 d5
      · intro u g k hg ho
        obtain ⟨ao, cap, e, hc, hm, hr⟩ := h1.kept k
        cases e
        obtain ⟨b, off, rfl, hb, hr⟩ := hr e1
        obtain ⟨ao', cap', e', -, -, hr0⟩ := h1
        cases e'
        obtain ⟨b', off', e2', hb', -⟩ := hr0 e1
        cases e2'
        have := lay_some (List.replicate n 0) g n n1 L1 q2 b off c1 x1 0 0 0 (by omega) (by omega) (by rw [List.length_replicate]; omega) (by rw [List.length_replicate]; omega) (fun j => by rw [getD_replicate]; omega) (by omega) u hb hr ho
        rw [List.length_replicate, hC] at this
        exact this
      · intro u0 u g k0 k1 hg ho
        exact settled_any u n n g x1 C lC (by omega) (fun j => by have := bC j; omega) _ vC tC1 tC2 u0 (hTab.kept k0) k1 hg ho Res (by rw [← hRes]; exact fC)
    · rw [if_neg e2] at hRes
      exact sum_main w T hTw hTab n1 L1 x1 e1 (hv1 e1) a1 c1 h1 n2 L2 x2 e2 (hv2 e2) a2 c2 h2 d0 d1 d2 d3 d4 d5 Res hRes
end Go.Proofs.YtbffekcjdcihpaaDoor

namespace Go.Proofs.YtbffekcjdcihpaaDoor
open Go.ChangeShapes Go.WideShapes Go.ChangeAt Go.RowKit
set_option linter.unusedVariables false
set_option linter.unusedSimpArgs false

def vz (s : Int) (a : Nm) : Int := sg a.neg ((nv a.mag : Int) * 2 ^ (a.exp - s).toNat)
structure Lies (s : Int) (B : Nat) (a : Nm) : Prop where
  ok : vld a = true
  low : a.mag ≠ [] → s ≤ a.exp
  lt : (vz s a).natAbs < 2 ^ B

theorem nv_pos_of (n : Bool) (L : List Int) (x : Int) (hne : L ≠ []) (hv : vld ⟨n, L, x⟩ = true) : 0 < nv L := by
  obtain ⟨p1, p2, p3, p4, p5, p6⟩ := vld_some n L x hne hv
  rcases Nat.eq_zero_or_pos (nv L) with h | h
  · exact absurd ((nv_zero L p2).1 h (L.length - 1)) p3
  · exact h

theorem vz_nil (s : Int) (n : Bool) (x : Int) : vz s ⟨n, [], x⟩ = 0 := by cases n <;> simp [vz, nv, sg]
theorem vz_abs (s : Int) (a : Nm) : (vz s a).natAbs = nv a.mag * 2 ^ (a.exp - s).toNat := by
  have e : ((nv a.mag * 2 ^ (a.exp - s).toNat : Nat) : Int) = (nv a.mag : Int) * 2 ^ (a.exp - s).toNat := by rw [Int.natCast_mul, Int.natCast_pow]; rfl
  unfold vz
  rw [← e]
  cases a.neg <;> simp [sg] <;> omega
end Go.Proofs.YtbffekcjdcihpaaDoor

namespace Go.Proofs.YtbffekcjdcihpaaDoor
open Go.ChangeShapes Go.WideShapes Go.ChangeAt Go.RowKit
set_option linter.unusedVariables false
set_option linter.unusedSimpArgs false

theorem cv_take (L : List Int) (j : Nat) (hj : j < L.length) : cv (L.take (j + 1)) = cv (L.take j) + L.getD j 0 * 2 ^ (30 * j) := by
  induction L generalizing j with
  | nil => simp at hj
  | cons d L ih =>
    cases j with
    | zero => simp [cv]
    | succ j =>
      have e := pow30i j
      simp only [List.take_succ_cons, cv, List.getD_cons_succ]
      rw [ih j (by simpa using hj), e, Int.mul_left_comm (L.getD j 0)]
      generalize L.getD j 0 * 2 ^ (30 * j) = z
      omega
theorem cv_put (D : List Int) (i : Nat) (hi : i < D.length) (d : Int) : cv (D.set i d) = cv D + (d - D.getD i 0) * 2 ^ (30 * i) := by
  have := cv_set D i hi (d - D.getD i 0)
  rw [show D.getD i 0 + (d - D.getD i 0) = d by omega] at this
  exact this
theorem Dg.put {D : List Int} (h : Dg D) (i : Nat) (d : Int) (h0 : 0 ≤ d) (h1 : d < 1073741824) : Dg (D.set i d) := fun x hx => by
  rcases List.mem_or_eq_of_mem_set hx with h2 | h2
  · exact h x h2
  · rw [h2]; exact ⟨h0, h1⟩

structure PRow (A B : List Int) (n i j : Nat) (D : List Int) (o : Int) : Prop where
  len : D.length = n
  dg : Dg D
  o0 : 0 ≤ o
  o1 : o < 1073741824
  val : cv D + o * 2 ^ (30 * (i + j)) = cv (A.take i) * cv B + A.getD i 0 * cv (B.take j) * 2 ^ (30 * i)
  zero : ∀ k, i + B.length ≤ k → D.getD k 0 = 0

theorem PRow.start {A B : List Int} {n i : Nat} {D : List Int} (h1 : D.length = n) (h2 : Dg D) (h3 : cv D = cv (A.take i) * cv B) (h4 : ∀ k, i + B.length ≤ k → D.getD k 0 = 0) : PRow A B n i 0 D 0 :=
  ⟨h1, h2, by omega, by omega, by simp [cv, h3], h4⟩

theorem mul_lt_60 (a b : Int) (h0 : 0 ≤ a) (h1 : a < 1073741824) (g0 : 0 ≤ b) (g1 : b < 1073741824) : 0 ≤ a * b ∧ a * b ≤ 1152921502459363329 := by
  have e1 : 0 ≤ a * b := Int.mul_nonneg h0 g0
  have e2 : a * b ≤ 1073741823 * 1073741823 := Int.mul_le_mul (by omega) (by omega) g0 (by omega)
  exact ⟨e1, by omega⟩

theorem PRow.step {A B : List Int} {n i j : Nat} {D : List Int} {o : Int} (h : PRow A B n i j D o) (hA : Dg A) (hB : Dg B) (hj : j < B.length) (hn : i + j < n) (T : Int) (hT : o + D.getD (i + j) 0 + A.getD i 0 * B.getD j 0 = T) :
    PRow A B n i (j + 1) (D.set (i + j) (T % 1073741824)) (T / 1073741824) := by
  have hd := h.dg.getD (i + j)
  have ha := hA.getD i
  have hb := hB.getD j
  have hm := mul_lt_60 _ _ ha.1 ha.2 hb.1 hb.2
  have o0 := h.o0
  have o1 := h.o1
  refine ⟨by rw [List.length_set]; exact h.len, h.dg.put _ _ (by omega) (by omega), by omega, by omega, ?_, ?_⟩
  · rw [cv_put D (i + j) (by rw [h.len]; exact hn), cv_take B j hj]
    have hv := h.val
    have e1 : (2 : Int) ^ (30 * (i + (j + 1))) = 1073741824 * 2 ^ (30 * (i + j)) := pow30i (i + j)
    have e2 : (2 : Int) ^ (30 * (i + j)) = 2 ^ (30 * j) * 2 ^ (30 * i) := by rw [show 30 * (i + j) = 30 * j + 30 * i by omega, Int.pow_add]
    have e3 : A.getD i 0 * (cv (B.take j) + B.getD j 0 * 2 ^ (30 * j)) * 2 ^ (30 * i) = A.getD i 0 * cv (B.take j) * 2 ^ (30 * i) + A.getD i 0 * B.getD j 0 * 2 ^ (30 * (i + j)) := by
      rw [e2, Int.mul_add, Int.add_mul]
      congr 1
      simp only [Int.mul_assoc]
    rw [e3, e1]
    generalize A.getD i 0 * B.getD j 0 = m at *
    generalize (2 : Int) ^ (30 * (i + j)) = P at *
    generalize D.getD (i + j) 0 = d at *
    have hTT : T = 1073741824 * (T / 1073741824) + T % 1073741824 := by omega
    have e4 : (T % 1073741824 - d) * P + T / 1073741824 * (1073741824 * P) = (T - d) * P := by
      rw [← Int.mul_assoc, ← Int.add_mul]
      congr 1
      omega
    have e5 : (T - d) * P = o * P + m * P := by
      rw [← Int.add_mul]
      congr 1
      omega
    omega
  · intro k hk
    rw [getD_set D (i + j) k _ (by rw [h.len]; exact hn), if_neg (by omega)]
    exact h.zero k hk

theorem PRow.finish {A B : List Int} {n i : Nat} {D : List Int} {o : Int} (h : PRow A B n i B.length D o) (hi : i < A.length) (hn : i + B.length < n) :
    PRow A B n (i + 1) 0 (D.set (i + B.length) o) 0 := by
  refine .start (by rw [List.length_set]; exact h.len) (h.dg.put _ _ h.o0 h.o1) ?_ ?_
  · have hv := h.val
    rw [cv_put D _ (by rw [h.len]; exact hn), h.zero _ (Nat.le_refl _), cv_take A i hi]
    rw [List.take_length] at hv
    rw [Int.sub_zero, hv, Int.add_mul]
    congr 1
    rw [Int.mul_right_comm]
  · intro k hk
    rw [getD_set D _ k _ (by rw [h.len]; exact hn), if_neg (by omega)]
    exact h.zero k (by omega)

theorem PRow.last {A B : List Int} {n : Nat} {D : List Int} {o : Int} (h : PRow A B n A.length 0 D o) (ho : o = 0) (hA : Dg A) (hB : Dg B) : Dg D ∧ nv D = nv A * nv B := by
  refine ⟨h.dg, ?_⟩
  have hv := h.val
  subst ho
  rw [List.take_length, cv_nv D h.dg, cv_nv A hA, cv_nv B hB] at hv
  simp only [List.take_zero, cv, Int.zero_mul, Int.mul_zero, Int.add_zero] at hv
  have : ((nv D : Nat) : Int) = ((nv A * nv B : Nat) : Int) := by rw [hv, Int.natCast_mul]
  omega

end Go.Proofs.YtbffekcjdcihpaaDoor

namespace Go.Proofs.YtbffekcjdcihpaaDoor
open Go.ChangeShapes Go.WideShapes Go.ChangeAt Go.RowKit
set_option linter.unusedVariables false
set_option linter.unusedSimpArgs false

def cz (a b : Int) : Int := if a < b then -1 else if b < a then 1 else 0
theorem cz_lt {a b : Int} (h : a < b) : cz a b = -1 := by rw [cz, if_pos h]
theorem cz_gt {a b : Int} (h : b < a) : cz a b = 1 := by rw [cz, if_neg (by omega), if_pos h]
theorem cz_eq {a b : Int} (h : a = b) : cz a b = 0 := by rw [cz, if_neg (by omega), if_neg (by omega)]

set_option maxHeartbeats 1000000 in
theorem compare_cz (x y : Int) (w : World) : Calls Tryd.prog 91 #[.int .i64 x, .int .i64 y] w fun e w' => e = .returned (.int .i64 (cz x y)) ∧ w = w' := by
  rcases Int.lt_trichotomy x y with h | h | h
  · rw [cz_lt h]
    have g2 : ¬ x = y := by omega
    have g3 : ¬ y < x := by omega
    go_enter Tryd.func91, Tryd.ntmps91
    go_wp2
    exact bodyPost_ret (v := .int .i64 _) (by simp [results, Tryd.results91, go_sem]) rfl ⟨rfl, rfl⟩
  · subst h
    rw [cz_eq rfl]
    have g3 : ¬ x < x := by omega
    go_enter Tryd.func91, Tryd.ntmps91
    go_wp2
    exact bodyPost_ret (v := .int .i64 _) (by simp [results, Tryd.results91, go_sem]) rfl ⟨rfl, rfl⟩
  · rw [cz_gt h]
    have g2 : ¬ x = y := by omega
    have g3 : ¬ x < y := by omega
    go_enter Tryd.func91, Tryd.ntmps91
    go_wp2
    exact bodyPost_ret (v := .int .i64 _) (by simp [results, Tryd.results91, go_sem]) rfl ⟨rfl, rfl⟩

/-! ### Plain -/
theorem lt_of_div (F G P : Nat) (h : F / P < G / P) : F < G := by
  rcases Nat.lt_or_ge F G with g | g
  · exact g
  · exact absurd (Nat.div_le_div_right (c := P) g) (by omega)

end Go.Proofs.YtbffekcjdcihpaaDoor

namespace Go.Proofs.YtbffekcjdcihpaaDoor
open Go.ChangeShapes Go.WideShapes Go.ChangeAt Go.RowKit
set_option linter.unusedVariables false
set_option linter.unusedSimpArgs false

abbrev pairC (n1 : Bool) (s1 : Value) (x1 : Int) (n2 : Bool) (s2 : Value) (x2 : Int) : Array Value := #[.bool n1, s1, .int .i64 x1, .bool n2, s2, .int .i64 x2]

set_option maxHeartbeats 1000000 in
set_option maxRecDepth 100000 in
theorem addz_in_ok (w : World) (hT : Tab w) (n1 : Bool) (L1 : List Int) (x1 : Int) (hv1 : vld ⟨n1, L1, x1⟩ = true) (a1 : Option Addr) (c1 : Nat) (n2 : Bool) (L2 : List Int) (x2 : Int) (hv2 : vld ⟨n2, L2, x2⟩ = true) (a2 : Option Addr) (c2 : Nat)  (h1 : Sl w (.slice a1 L1.length c1) L1) (h2 : Sl w (.slice a2 L2.length c2) L2) (r : Nm) (hf : addZ ⟨n1, L1, x1⟩ ⟨n2, L2, x2⟩ = some r) (p q : Nat) (hp : p < w.heap.size) (hq : q < w.heap.size)  (cp0 : w.cell? ⟨p, 0, none⟩ = some (.bool n1)) (cp1 : w.cell? ⟨p, 1, none⟩ = some (.slice a1 L1.length c1)) (cp2 : w.cell? ⟨p, 2, none⟩ = some (.int .i64 x1)) (cq0 : w.cell? ⟨q, 0, none⟩ = some (.bool n2)) (cq1 : w.cell? ⟨q, 1, none⟩ = some (.slice a2 L2.length c2)) (cq2 : w.cell? ⟨q, 2, none⟩ = some (.int .i64 x2)) : Calls Tryd.prog 26 #[.pointer (some ⟨p, 0, none⟩), .pointer (some ⟨q, 0, none⟩)] w fun e w' => (∃ v, e = .returned v ∧ New w w' v r) ∧ Kept w w' := by
  have hK : Kept w (numW w) := (Kept.refl w).alloc _ _
  have hK2 : Kept (numW w) ((numW w).alloc (.cells (pairC n1 (.slice a1 L1.length c1) x1 n2 (.slice a2 L2.length c2) x2) 24)) := (Kept.refl _).alloc _ _
  have KS : Hid (Calls Tryd.prog 27 #[.slice (some ⟨w.heap.size + 1, 0, none⟩) 2 2] ((numW w).alloc (.cells (pairC n1 (.slice a1 L1.length c1) x1 n2 (.slice a2 L2.length c2) x2) 24)) fun e w' => ToldR (some r) ((numW w).alloc (.cells (pairC n1 (.slice a1 L1.length c1) x1 n2 (.slice a2 L2.length c2) x2) 24)) w' e ∧ Kept (numW w) w') := by
    have := sum_any ((numW w).alloc (.cells (pairC n1 (.slice a1 L1.length c1) x1 n2 (.slice a2 L2.length c2) x2) 24)) (w.heap.size + 1) (by simp) (hT.kept (hK.trans hK2)) n1 L1 x1 (fun _ => hv1) (vld_zero n1 L1 x1 hv1) a1 c1 (h1.kept (hK.trans hK2)) n2 L2 x2 (fun _ => hv2) (vld_zero n2 L2 x2 hv2) a2 c2 (h2.kept (hK.trans hK2)) (by simp [go_sem]) (by simp [go_sem]) (by simp [go_sem]) (by simp [go_sem]) (by simp [go_sem]) (by simp [go_sem]) (some r) hf
    refine this.mono ?_
    rintro e w' ⟨hr, k⟩
    exact ⟨hr, hK2.trans k⟩
  have ep0 : (numW w).cell? ⟨p, 0, none⟩ = some (.bool n1) := (hK.below.cell (p := ⟨p, 0, none⟩) hp).trans cp0
  have ep1 : (numW w).cell? ⟨p, 1, none⟩ = some (.slice a1 L1.length c1) := (hK.below.cell (p := ⟨p, 1, none⟩) hp).trans cp1
  have ep2 : (numW w).cell? ⟨p, 2, none⟩ = some (.int .i64 x1) := (hK.below.cell (p := ⟨p, 2, none⟩) hp).trans cp2
  have eq0 : (numW w).cell? ⟨q, 0, none⟩ = some (.bool n2) := (hK.below.cell (p := ⟨q, 0, none⟩) hq).trans cq0
  have eq1 : (numW w).cell? ⟨q, 1, none⟩ = some (.slice a2 L2.length c2) := (hK.below.cell (p := ⟨q, 1, none⟩) hq).trans cq1
  have eq2 : (numW w).cell? ⟨q, 2, none⟩ = some (.int .i64 x2) := (hK.below.cell (p := ⟨q, 2, none⟩) hq).trans cq2
  clear h1 h2 hT hf hv1 hv2 cp0 cp1 cp2 cq0 cq1 cq2
  generalize L1.length = l1 at *
  generalize L2.length = l2 at *
  go_enter Tryd.func26, Tryd.ntmps26
  go_wp2_with (first | (go_at_call 27; refine KS.out.mono ?_; rintro e w1 ⟨⟨v, rfl, hN⟩, hk1⟩; obtain ⟨vn, va, vl, vc, vx, rfl⟩ := hN.shape; obtain ⟨f0, f1, f2, f3⟩ := num_cells hk1))
  have := num_done (hN.from hK2) hk1 (.bool vn) (.slice va vl vc) (.int .i64 vx)
  exact bodyPost_ret (v := .agg #[.bool vn, .slice va vl vc, .int .i64 vx]) (by simp [results, Tryd.results26, go_sem, f0, f1, f2]) rfl ⟨⟨_, rfl, this.1⟩, this.2⟩

abbrev addW (w : World) (v1 v2 c : Array Value) : World := (((w.alloc (.cells v1 24)).alloc (.cells v2 24)).alloc nilNum).alloc (.cells c 24)
theorem addW_kept (w : World) (v1 v2 c : Array Value) : Kept w (addW w v1 v2 c) := ((((Kept.refl w).alloc _ _).alloc _ _).alloc _ _).alloc _ _

set_option maxHeartbeats 1000000 in
set_option maxRecDepth 100000 in
theorem addz_ok (w : World) (hT : Tab w) (n1 : Bool) (L1 : List Int) (x1 : Int) (hv1 : vld ⟨n1, L1, x1⟩ = true) (a1 : Option Addr) (c1 : Nat) (n2 : Bool) (L2 : List Int) (x2 : Int) (hv2 : vld ⟨n2, L2, x2⟩ = true) (a2 : Option Addr) (c2 : Nat)  (h1 : Sl w (.slice a1 L1.length c1) L1) (h2 : Sl w (.slice a2 L2.length c2) L2) (r : Nm) (hf : addZ ⟨n1, L1, x1⟩ ⟨n2, L2, x2⟩ = some r) : Calls Tryd.prog 7 #[.agg #[.bool n1, .slice a1 L1.length c1, .int .i64 x1], .agg #[.bool n2, .slice a2 L2.length c2, .int .i64 x2]] w fun e w' => ∃ v, e = .returned (.tuple #[v, .int .i64 0]) ∧ New w w' v r ∧ Kept w w' := by
  have hW := addW_kept w #[.bool n1, .slice a1 L1.length c1, .int .i64 x1] #[.bool n2, .slice a2 L2.length c2, .int .i64 x2] (pairC n1 (.slice a1 L1.length c1) x1 n2 (.slice a2 L2.length c2) x2)
  have hd1 := vld_dg _ _ _ hv1
  have hd2 := vld_dg _ _ _ hv2
  have KV : Hid (∀ w', Kept (addW w #[.bool n1, .slice a1 L1.length c1, .int .i64 x1] #[.bool n2, .slice a2 L2.length c2, .int .i64 x2] (pairC n1 (.slice a1 L1.length c1) x1 n2 (.slice a2 L2.length c2) x2)) w' → Calls Tryd.prog 43 #[.slice (some ⟨w.heap.size + 3, 0, none⟩) 2 2] w' fun e w'' => e = .returned (.bool true) ∧ Kept w' w'') := fun u k => by
    have hb : w.heap.size + 3 < (addW w #[.bool n1, .slice a1 L1.length c1, .int .i64 x1] #[.bool n2, .slice a2 L2.length c2, .int .i64 x2] (pairC n1 (.slice a1 L1.length c1) x1 n2 (.slice a2 L2.length c2) x2)).heap.size := by simp
    have := allValid_2 u (w.heap.size + 3) 2 n1 n2 a1 a2 L1.length c1 L2.length c2 x1 x2 true true (Nat.lt_of_lt_of_le hb k.below.size) ((k.below.cell (p := ⟨w.heap.size + 3, 0, none⟩) hb).trans (by simp [go_sem])) ((k.below.cell (p := ⟨w.heap.size + 3, 1, none⟩) hb).trans (by simp [go_sem])) ((k.below.cell (p := ⟨w.heap.size + 3, 2, none⟩) hb).trans (by simp [go_sem])) ((k.below.cell (p := ⟨w.heap.size + 3, 3, none⟩) hb).trans (by simp [go_sem])) ((k.below.cell (p := ⟨w.heap.size + 3, 4, none⟩) hb).trans (by simp [go_sem])) ((k.below.cell (p := ⟨w.heap.size + 3, 5, none⟩) hb).trans (by simp [go_sem])) (fun v kv => ?_) (fun v kv => ?_)
    · exact this
    · have := xvalid_any ⟨n1, L1, x1⟩ hd1.2.rg (by dsimp only; omega) (.agg #[.bool n1, .slice a1 L1.length c1, .int .i64 x1]) v ⟨_, rfl, ((h1.kept hW).kept k).kept kv⟩
      rw [hv1] at this
      exact this
    · have := xvalid_any ⟨n2, L2, x2⟩ hd2.2.rg (by dsimp only; omega) (.agg #[.bool n2, .slice a2 L2.length c2, .int .i64 x2]) v ⟨_, rfl, ((h2.kept hW).kept k).kept kv⟩
      rw [hv2] at this
      exact this
  have KT : Hid (Calls Tryd.prog 22 #[.func (.func 26) #[] #[.pointer (some ⟨w.heap.size, 0, none⟩), .pointer (some ⟨w.heap.size + 1, 0, none⟩)], .slice (some ⟨w.heap.size + 3, 0, none⟩) 2 2] (addW w #[.bool n1, .slice a1 L1.length c1, .int .i64 x1] #[.bool n2, .slice a2 L2.length c2, .int .i64 x2] (pairC n1 (.slice a1 L1.length c1) x1 n2 (.slice a2 L2.length c2) x2)) fun e w' => ∃ v, e = .returned (.tuple #[v, .int .i64 0]) ∧ New (addW w #[.bool n1, .slice a1 L1.length c1, .int .i64 x1] #[.bool n2, .slice a2 L2.length c2, .int .i64 x2] (pairC n1 (.slice a1 L1.length c1) x1 n2 (.slice a2 L2.length c2) x2)) w' v r ∧ Kept (addW w #[.bool n1, .slice a1 L1.length c1, .int .i64 x1] #[.bool n2, .slice a2 L2.length c2, .int .i64 x2] (pairC n1 (.slice a1 L1.length c1) x1 n2 (.slice a2 L2.length c2) x2)) w') := by
    refine told_ok 26 _ (fun w => call_of Tryd.func26 (by kernel_rfl) (by kernel_rfl) _ w) _ r _ KV (fun u k => ?_)
    have hs := k.below.size
    simp only [addW, World.size_alloc] at hs
    exact addz_in_ok u ((hT.kept hW).kept k) n1 L1 x1 hv1 a1 c1 n2 L2 x2 hv2 a2 c2 ((h1.kept hW).kept k) ((h2.kept hW).kept k) r hf _ _ (by omega) (by omega) ((k.below.cell (p := ⟨w.heap.size, 0, none⟩) (by simp <;> omega)).trans (by simp [go_sem])) ((k.below.cell (p := ⟨w.heap.size, 1, none⟩) (by simp <;> omega)).trans (by simp [go_sem])) ((k.below.cell (p := ⟨w.heap.size, 2, none⟩) (by simp <;> omega)).trans (by simp [go_sem])) ((k.below.cell (p := ⟨w.heap.size + 1, 0, none⟩) (by simp <;> omega)).trans (by simp [go_sem])) ((k.below.cell (p := ⟨w.heap.size + 1, 1, none⟩) (by simp <;> omega)).trans (by simp [go_sem])) ((k.below.cell (p := ⟨w.heap.size + 1, 2, none⟩) (by simp <;> omega)).trans (by simp [go_sem]))
  have hmf : ∀ (fn : Fn) (first cap : Array Value) (w : World), (Instr.makeFunc fn first cap).run Tryd.prog w = .ok (.func fn first cap) w := fun _ _ _ _ => rfl
  clear h1 h2 hT hf hv1 hv2 KV hd1 hd2
  generalize L1.length = l1 at *
  generalize L2.length = l2 at *
  go_enter Tryd.func7, Tryd.ntmps7
  go_wp2_with (first | (go_at_call 22; refine KT.out.mono ?_; rintro e w1 ⟨v, rfl, hN, hk1⟩; obtain ⟨vn, va, vl, vc, vx, rfl⟩ := hN.shape; obtain ⟨f0, f1, f2, f3⟩ := res_cells (w.heap.size + 2) (by simp <;> omega) hk1 (by simp [go_sem]) (by simp [go_sem]) (by simp [go_sem]) (fun o => by simp [go_sem])))
  have := res_done (w.heap.size + 2) (by omega) (by simp <;> omega) hW hN hk1 (.bool vn) (.slice va vl vc) (.int .i64 vx)
  refine bodyPost_ret (v := .tuple #[.agg #[.bool vn, .slice va vl vc, .int .i64 vx], .int .i64 0]) (by simp [results, Tryd.results7, go_sem, f0, f1, f2]) rfl ⟨_, rfl, this.1, this.2⟩

theorem addZ_ne (a b : Nm) (h1 : a.mag ≠ []) (h2 : b.mag ≠ []) : addZ a b = addN a b := by rw [addZ, if_neg h1, if_neg h2]
theorem add_ok (w : World) (hT : Tab w) (n1 : Bool) (L1 : List Int) (x1 : Int) (hne1 : L1 ≠ []) (hv1 : vld ⟨n1, L1, x1⟩ = true) (a1 : Option Addr) (c1 : Nat) (n2 : Bool) (L2 : List Int) (x2 : Int) (hne2 : L2 ≠ []) (hv2 : vld ⟨n2, L2, x2⟩ = true) (a2 : Option Addr) (c2 : Nat)  (h1 : Sl w (.slice a1 L1.length c1) L1) (h2 : Sl w (.slice a2 L2.length c2) L2) (r : Nm) (hf : addN ⟨n1, L1, x1⟩ ⟨n2, L2, x2⟩ = some r) : Calls Tryd.prog 7 #[.agg #[.bool n1, .slice a1 L1.length c1, .int .i64 x1], .agg #[.bool n2, .slice a2 L2.length c2, .int .i64 x2]] w fun e w' => ∃ v, e = .returned (.tuple #[v, .int .i64 0]) ∧ New w w' v r ∧ Kept w w' := addz_ok w hT n1 L1 x1 hv1 a1 c1 n2 L2 x2 hv2 a2 c2 h1 h2 r ((addZ_ne _ _ hne1 hne2).trans hf)
/-! ### Int -/
theorem own_three (w : World) (a b c : Int) : Own (w.alloc (.cells #[.int .i64 a, .int .i64 b, .int .i64 c] 3)) w.heap.size 3 [a, b, c] :=
  ⟨_, heap_alloc_new w _, Nat.le_refl _, by simp [maxLen], by simp, by simp⟩

set_option maxHeartbeats 1000000 in
set_option maxRecDepth 100000 in
theorem int_pos (n : Int) (h0 : 0 ≤ n) (h1 : n ≤ 9223372036854775807) (r : Nm) (hf : frm (decide (n < 0)) n.natAbs 0 = some r) (w : World) (hT : Tab w) : Calls Tryd.prog 8 #[.int .i64 n] w fun e w' => (∃ v, e = .returned v ∧ New w w' v r) ∧ Kept w w' := by
  have hK : Kept w (numW w) := (Kept.refl w).alloc _ _
  obtain ⟨s, hs⟩ : ∃ s : Int, s = (n.natAbs : Int) := ⟨_, rfl⟩
  have hs1 : 0 ≤ s ∧ s ≤ 9223372036854775808 := by omega
  have hw1 : IntKind.u64.wrap n = if n < 0 then n + 18446744073709551616 else n := by rw [IntKind.wrap_u64]; split <;> omega
  have KD : Hid (Calls Tryd.prog 28 #[.int .u64 s] (numW w) fun e w' => e = .returned (.slice (some ⟨(numW w).heap.size, 0, none⟩) 3 3) ∧ w' = (numW w).alloc (.cells #[.int .i64 (s % 1073741824), .int .i64 (s / 1073741824 % 1073741824), .int .i64 (s / 1152921504606846976)] 3)) := digitsOf_any s hs1.1 (by omega) (numW w)
  have hO := own_three (numW w) (s % 1073741824) (s / 1073741824 % 1073741824) (s / 1152921504606846976)
  have hDg : Dg [s % 1073741824, s / 1073741824 % 1073741824, s / 1152921504606846976] := Dg.cons (by omega) (by omega) (Dg.cons (by omega) (by omega) (Dg.cons (by omega) (by omega) Dg.nil))
  have hnv : nv [s % 1073741824, s / 1073741824 % 1073741824, s / 1152921504606846976] = n.natAbs := by
    show (s % 1073741824).toNat + 1073741824 * ((s / 1073741824 % 1073741824).toNat + 1073741824 * ((s / 1152921504606846976).toNat + 1073741824 * 0)) = n.natAbs
    omega
  have hK2 : Kept (numW w) ((numW w).alloc (.cells #[.int .i64 (s % 1073741824), .int .i64 (s / 1073741824 % 1073741824), .int .i64 (s / 1152921504606846976)] 3)) := (Kept.refl _).alloc _ _
  have KF : Hid (Calls Tryd.prog 24 #[.bool (decide (n < 0)), .slice (some ⟨(numW w).heap.size, 0, none⟩) 3 3, .int .i64 0] ((numW w).alloc (.cells #[.int .i64 (s % 1073741824), .int .i64 (s / 1073741824 % 1073741824), .int .i64 (s / 1152921504606846976)] 3)) fun e w' => (∃ v, e = .returned v ∧ New (numW w) w' v r) ∧ Kept (numW w) w') := form_ok _ _ hDg (by simp) _ 3 0 (numW w) _ hK2 (Nat.le_refl _) hO (hT.kept (hK.trans hK2)) r (by rw [hnv]; exact hf)
  clear hO hDg hnv hf hT
  simp only [World.size_alloc] at KD KF
  have hneg : ¬ n < 0 := by omega
  · rw [if_neg hneg] at hw1
    have hsn : s = n := by omega
    subst hsn
    rw [decide_eq_false hneg] at KF
    clear hs hs1 h1
    go_enter Tryd.func8, Tryd.ntmps8
    go_wp2_with (first | (go_at_call 28; refine KD.out.mono ?_; rintro e w1 ⟨rfl, rfl⟩) | (go_at_call 24; refine KF.out.mono ?_; rintro e w2 ⟨⟨v, rfl, hN⟩, hk1⟩; obtain ⟨vn, va, vl, vc, vx, rfl⟩ := hN.shape; obtain ⟨f0, f1, f2, f3⟩ := num_cells hk1))
    have := num_done hN hk1 (.bool vn) (.slice va vl vc) (.int .i64 vx)
    exact bodyPost_ret (v := .agg #[.bool vn, .slice va vl vc, .int .i64 vx]) (by simp [results, Tryd.results8, go_sem, f0, f1, f2]) rfl ⟨⟨_, rfl, this.1⟩, this.2⟩
end Go.Proofs.YtbffekcjdcihpaaDoor
