/- The walks of exact's Neg, Scale, Sign, Int. -/
import Derived.Test.YtkmengfmiamdaaaDoorD10
namespace Go.Proofs.YtkmengfmiamdaaaDoor
open Go.ChangeShapes Go.WideShapes Go.ChangeAt Go.RowKit
set_option linter.unusedVariables false
set_option linter.unusedSimpArgs false

theorem and_one (d : Int) : bits .and .i64 d 1 = d % 2 := by
  have e : (BitVec.ofInt 64 1 : BitVec 64).toNat = 2 ^ 1 - 1 := by decide
  have h := ofInt_toNat d
  rw [bits_and, BitVec.toNat_and, e, Nat.and_two_pow_sub_one_eq_mod, wrap_i64]
  omega

/-- What a valid number that is not 0 says of itself. -/
theorem vld_some (neg : Bool) (L : List Int) (x : Int) (hne : L ≠ []) (h : vld ⟨neg, L, x⟩ = true) : L.length ≤ 2000 ∧ Dg L ∧ L.getD (L.length - 1) 0 ≠ 0 ∧ L.getD 0 0 % 2 = 1 ∧ -1048576 ≤ x ∧ x ≤ 1048576 := by
  unfold vld vldN at h
  simp only [hne, if_false, Bool.and_eq_true, decide_eq_true_eq, bne_iff_ne, beq_iff_eq, and_one] at h
  obtain ⟨⟨⟨⟨⟨h1, h2⟩, h3⟩, h4⟩, h5⟩, h6⟩ := h
  exact ⟨by omega, (dgb_iff L).1 h2, h3, h4, h5, h6⟩
theorem vld_nil (neg : Bool) (x : Int) (h : vld ⟨neg, [], x⟩ = true) : neg = false ∧ x = 0 := by
  simpa [vld] using h
theorem vld_dg (neg : Bool) (L : List Int) (x : Int) (h : vld ⟨neg, L, x⟩ = true) : L.length ≤ 2000 ∧ Dg L := by
  by_cases hne : L = []
  · subst hne; exact ⟨by simp, Dg.nil⟩
  · have := vld_some neg L x hne h
    exact ⟨this.1, this.2.1⟩
theorem nv_odd (L : List Int) (hL : Dg L) (h : L.getD 0 0 % 2 = 1) : nv L % 2 = 1 := by
  have h1 := nv_getD L hL 0
  have h2 := hL.getD 0
  rw [Nat.mul_zero, Nat.pow_zero, Nat.div_one] at h1
  omega
theorem frm_odd (neg b : Bool) (L : List Int) (x y : Int) (hne : L ≠ []) (h : vld ⟨neg, L, x⟩ = true) : frm b (nv L) y = if -1048576 ≤ wrap64 y ∧ wrap64 y ≤ 1048576 then some ⟨b, L, wrap64 y⟩ else none := by
  obtain ⟨h1, h2, h3, h4, h5, h6⟩ := vld_some neg L x hne h
  have ho := nv_odd L h2 h4
  have hz := tzn_odd _ ho
  have hb := bl_le _ _ (nv_lt L h2)
  have hd := digs_nv L h2 (.inr h3)
  unfold frm
  rw [if_neg (by omega), hz]
  simp only [Nat.pow_zero, Nat.div_one, hd, Int.natCast_zero, Int.add_zero, Nat.sub_zero]
  by_cases hy : -1048576 ≤ wrap64 y ∧ wrap64 y ≤ 1048576
  · rw [if_pos hy, if_pos ⟨by omega, hy⟩]
  · rw [if_neg hy, if_neg (fun hh => hy hh.2)]
theorem frm_nil (b : Bool) (y : Int) : frm b (nv []) y = some ⟨false, [], 0⟩ := by simp [frm, nv]

abbrev negW (w : World) (v : Array Value) : World := ((w.alloc (.cells v 31)).alloc nilNum).alloc (.cells v 31)
theorem negW_kept (w : World) (v : Array Value) : Kept w (negW w v) := (((Kept.refl w).alloc _ _).alloc _ _).alloc _ _
abbrev scaleW (w : World) (v : Array Value) (k : Int) : World := (((w.alloc (.cells v 31)).alloc (.cells #[.int .i64 k] 3)).alloc nilNum).alloc (.cells v 31)
theorem scaleW_kept (w : World) (v : Array Value) (k : Int) : Kept w (scaleW w v k) := ((((Kept.refl w).alloc _ _).alloc _ _).alloc _ _).alloc _ _

/-- All that is handed in is looked at: one number, behind the call's own blocks. -/
theorem allValid_at {W : World} (b : Nat) (hb : b < W.heap.size) (neg : Bool) (L : List Int) (hR : Rg L) (hlen : L.length < 100000000) (ao : Option Addr) (cap : Nat) (x : Int) (h : Sl W (.slice ao L.length cap) L) (c0 : W.cell? ⟨b, 0, none⟩ = some (.bool neg)) (c1 : W.cell? ⟨b, 1, none⟩ = some (.slice ao L.length cap)) (c2 : W.cell? ⟨b, 2, none⟩ = some (.int .i64 x)) (g : Bool) (hg : vld ⟨neg, L, x⟩ = g) :
    Hid (∀ w', Kept W w' → Calls Tryd.prog 45 #[.slice (some ⟨b, 0, none⟩) 1 1] w' fun e w'' => e = .returned (.bool g) ∧ Kept w' w'') := fun w' k => by
  subst hg
  refine allValid_1 w' b 1 neg ao L.length cap x _ (Nat.lt_of_lt_of_le hb k.below.size) ((k.below.cell (p := ⟨b, 0, none⟩) hb).trans c0) ((k.below.cell (p := ⟨b, 1, none⟩) hb).trans c1) ((k.below.cell (p := ⟨b, 2, none⟩) hb).trans c2) (fun u ku => ?_)
  exact xvalid_any ⟨neg, L, x⟩ hR hlen _ u ⟨_, rfl, (h.kept k).kept ku⟩

set_option maxHeartbeats 1000000 in
theorem sign_ok (neg : Bool) (L : List Int) (hR : Rg L) (hlen : L.length < 60000000) (ao : Option Addr) (cap : Nat) (x : Int) (hv : vld ⟨neg, L, x⟩ = true) (w : World) (h : Sl w (.slice ao L.length cap) L) : Calls Tryd.prog 16 #[.agg #[.bool neg, .slice ao L.length cap, .int .i64 x]] w fun e w' => e = .returned (.tuple #[.int .i64 (if L.length = 0 then 0 else if neg = true then -1 else 1), .int .i64 0]) ∧ Kept w w' := by
  have hK := (Kept.refl w).alloc #[.bool neg, .slice ao L.length cap, .int .i64 x] 31
  have K1 : Hid (Calls Tryd.prog 18 #[.agg #[.bool neg, .slice ao L.length cap, .int .i64 x]] (w.alloc (.cells #[.bool neg, .slice ao L.length cap, .int .i64 x] 31)) fun e w' => e = .returned (.bool true) ∧ Kept (w.alloc (.cells #[.bool neg, .slice ao L.length cap, .int .i64 x] 31)) w') := by
    have := xvalid_any ⟨neg, L, x⟩ hR (by dsimp only; omega) (.agg #[.bool neg, .slice ao L.length cap, .int .i64 x]) _ ⟨_, rfl, h.kept hK⟩
    rw [hv] at this
    exact this
  clear hR hlen hv h
  generalize L.length = n at *
  obtain ⟨s, hs⟩ : ∃ s : Int, s = if n = 0 then 0 else if neg = true then -1 else 1 := ⟨_, rfl⟩
  have HS : Hid (s = if n = 0 then 0 else if neg = true then -1 else 1) := hs
  rw [← hs]
  clear hs
  go_enter Tryd.func16, Tryd.ntmps16
  go_wp2_with (first | (go_at_call 18; refine K1.out.mono ?_; rintro e w1 ⟨rfl, hk1⟩; have hcl := laid_cell hk1) | (go_at_call 46; refine (signOf_any neg ao n cap x _).mono ?_; rintro e w2 ⟨rfl, hk2⟩; rw [← HS.out]))
  go_ret2
  exact ⟨rfl, (hK.trans hk1).trans hk2⟩

set_option maxHeartbeats 1000000 in
theorem sign_bad (neg : Bool) (L : List Int) (hR : Rg L) (hlen : L.length < 60000000) (ao : Option Addr) (cap : Nat) (x : Int) (hv : vld ⟨neg, L, x⟩ = false) (w : World) (h : Sl w (.slice ao L.length cap) L) : Calls Tryd.prog 16 #[.agg #[.bool neg, .slice ao L.length cap, .int .i64 x]] w fun e w' => e = .returned (.tuple #[.int .i64 0, .int .i64 7]) ∧ Kept w w' := by
  have hK := (Kept.refl w).alloc #[.bool neg, .slice ao L.length cap, .int .i64 x] 31
  have K1 : Hid (Calls Tryd.prog 18 #[.agg #[.bool neg, .slice ao L.length cap, .int .i64 x]] (w.alloc (.cells #[.bool neg, .slice ao L.length cap, .int .i64 x] 31)) fun e w' => e = .returned (.bool false) ∧ Kept (w.alloc (.cells #[.bool neg, .slice ao L.length cap, .int .i64 x] 31)) w') := by
    have := xvalid_any ⟨neg, L, x⟩ hR (by dsimp only; omega) (.agg #[.bool neg, .slice ao L.length cap, .int .i64 x]) _ ⟨_, rfl, h.kept hK⟩
    rw [hv] at this
    exact this
  clear hR hlen hv h
  generalize L.length = n at *
  go_enter Tryd.func16, Tryd.ntmps16
  go_wp2_with (first | (go_at_call 18; refine K1.out.mono ?_; rintro e w1 ⟨rfl, hk1⟩; have hcl := laid_cell hk1))
  go_ret2
  exact ⟨rfl, hK.trans hk1⟩

end Go.Proofs.YtkmengfmiamdaaaDoor
