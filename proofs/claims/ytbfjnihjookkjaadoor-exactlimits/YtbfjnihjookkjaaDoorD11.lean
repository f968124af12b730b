/- The walks of exact's Neg, Scale, Sign, Int. -/
import Derived.Test.YtbfjnihjookkjaaDoorD10
namespace Go.Proofs.YtbfjnihjookkjaaDoor
open Go.ChangeShapes Go.WideShapes Go.ChangeAt Go.RowKit
set_option linter.unusedVariables false
set_option linter.unusedSimpArgs false

theorem and_one (d : Int) : bits .and .i64 d 1 = d % 2 := by
  have e : (BitVec.ofInt 64 1 : BitVec 64).toNat = 2 ^ 1 - 1 := by decide
  have h := ofInt_toNat d
  rw [bits_and, BitVec.toNat_and, e, Nat.and_two_pow_sub_one_eq_mod, wrap_i64]
  omega

/-- What a valid number that is not 0 says of itself. -/
theorem vld_some (neg : Bool) (L : List Int) (x : Int) (hne : L ≠ []) (h : vld ⟨neg, L, x⟩ = true) : L.length ≤ 2000 ∧ Dg L ∧ L.getD (L.length - 1) 0 ≠ 0 ∧ L.getD 0 0 % 2 = 1 ∧ -1048576 ≤ x ∧ x ≤ 1048576 := by
  unfold vld vldN at h
  simp only [hne, if_false, Bool.and_eq_true, decide_eq_true_eq, bne_iff_ne, beq_iff_eq, and_one] at h
  obtain ⟨⟨⟨⟨⟨h1, h2⟩, h3⟩, h4⟩, h5⟩, h6⟩ := h
  exact ⟨by omega, (dgb_iff L).1 h2, h3, h4, h5, h6⟩
theorem vld_nil (neg : Bool) (x : Int) (h : vld ⟨neg, [], x⟩ = true) : neg = false ∧ x = 0 := by
  simpa [vld] using h
theorem vld_dg (neg : Bool) (L : List Int) (x : Int) (h : vld ⟨neg, L, x⟩ = true) : L.length ≤ 2000 ∧ Dg L := by
  by_cases hne : L = []
  · subst hne; exact ⟨by simp, Dg.nil⟩
  · have := vld_some neg L x hne h
    exact ⟨this.1, this.2.1⟩
theorem nv_odd (L : List Int) (hL : Dg L) (h : L.getD 0 0 % 2 = 1) : nv L % 2 = 1 := by
  have h1 := nv_getD L hL 0
  have h2 := hL.getD 0
  rw [Nat.mul_zero, Nat.pow_zero, Nat.div_one] at h1
  omega
theorem frm_odd (neg b : Bool) (L : List Int) (x y : Int) (hne : L ≠ []) (h : vld ⟨neg, L, x⟩ = true) : frm b (nv L) y = if -1048576 ≤ wrap64 y ∧ wrap64 y ≤ 1048576 then some ⟨b, L, wrap64 y⟩ else none := by
  obtain ⟨h1, h2, h3, h4, h5, h6⟩ := vld_some neg L x hne h
  have ho := nv_odd L h2 h4
  have hz := tzn_odd _ ho
  have hb := bl_le _ _ (nv_lt L h2)
  have hd := digs_nv L h2 (.inr h3)
  unfold frm
  rw [if_neg (by omega), hz]
  simp only [Nat.pow_zero, Nat.div_one, hd, Int.natCast_zero, Int.add_zero, Nat.sub_zero]
  by_cases hy : -1048576 ≤ wrap64 y ∧ wrap64 y ≤ 1048576
  · rw [if_pos hy, if_pos ⟨by omega, hy⟩]
  · rw [if_neg hy, if_neg (fun hh => hy hh.2)]
theorem frm_nil (b : Bool) (y : Int) : frm b (nv []) y = some ⟨false, [], 0⟩ := by simp [frm, nv]

abbrev negW (w : World) (v : Array Value) : World := ((w.alloc (.cells v 31)).alloc nilNum).alloc (.cells v 31)
theorem negW_kept (w : World) (v : Array Value) : Kept w (negW w v) := (((Kept.refl w).alloc _ _).alloc _ _).alloc _ _
abbrev scaleW (w : World) (v : Array Value) (k : Int) : World := (((w.alloc (.cells v 31)).alloc (.cells #[.int .i64 k] 3)).alloc nilNum).alloc (.cells v 31)
theorem scaleW_kept (w : World) (v : Array Value) (k : Int) : Kept w (scaleW w v k) := ((((Kept.refl w).alloc _ _).alloc _ _).alloc _ _).alloc _ _

/-- All that is handed in is looked at: one number, behind the call's own blocks. -/
theorem allValid_at {W : World} (b : Nat) (hb : b < W.heap.size) (neg : Bool) (L : List Int) (hR : Rg L) (hlen : L.length < 100000000) (ao : Option Addr) (cap : Nat) (x : Int) (h : Sl W (.slice ao L.length cap) L) (c0 : W.cell? ⟨b, 0, none⟩ = some (.bool neg)) (c1 : W.cell? ⟨b, 1, none⟩ = some (.slice ao L.length cap)) (c2 : W.cell? ⟨b, 2, none⟩ = some (.int .i64 x)) (g : Bool) (hg : vld ⟨neg, L, x⟩ = g) :
    Hid (∀ w', Kept W w' → Calls Tryd.prog 57 #[.slice (some ⟨b, 0, none⟩) 1 1] w' fun e w'' => e = .returned (.bool g) ∧ Kept w' w'') := fun w' k => by
  subst hg
  refine allValid_1 w' b 1 neg ao L.length cap x _ (Nat.lt_of_lt_of_le hb k.below.size) ((k.below.cell (p := ⟨b, 0, none⟩) hb).trans c0) ((k.below.cell (p := ⟨b, 1, none⟩) hb).trans c1) ((k.below.cell (p := ⟨b, 2, none⟩) hb).trans c2) (fun u ku => ?_)
  exact xvalid_any ⟨neg, L, x⟩ hR hlen _ u ⟨_, rfl, (h.kept k).kept ku⟩

set_option maxHeartbeats 1000000 in
set_option maxRecDepth 100000 in
theorem neg_ok (neg : Bool) (L : List Int) (hR : Rg L) (hlen : L.length < 60000000) (ao : Option Addr) (cap : Nat) (hcap : ao = none → cap = 0) (x : Int) (hv : vld ⟨neg, L, x⟩ = true) (r : Nm) (hf : frm (!neg) (nv L) x = some r) (w : World) (h : Sl w (.slice ao L.length cap) L) (hT : Tab w) : Calls Tryd.prog 42 #[.agg #[.bool neg, .slice ao L.length cap, .int .i64 x]] w fun e w' => ∃ v, e = .returned (.tuple #[v, .int .i64 0]) ∧ New w w' v r ∧ Kept w w' := by
  have hW : Kept w (negW w #[.bool neg, .slice ao L.length cap, .int .i64 x]) := by first | exact negW_kept _ _ | exact scaleW_kept _ _ _
  have KV := allValid_at (W := negW w #[.bool neg, .slice ao L.length cap, .int .i64 x]) (w.heap.size + 2) (by simp) neg L hR (by omega) ao cap x (h.kept hW) (by simp [go_sem]) (by simp [go_sem]) (by simp [go_sem]) _ hv
  have KT : Hid (Calls Tryd.prog 51 #[.func (.func 86) #[] #[.pointer (some ⟨w.heap.size, 0, none⟩)], .slice (some ⟨w.heap.size + 2, 0, none⟩) 1 1] (negW w #[.bool neg, .slice ao L.length cap, .int .i64 x]) fun e w' => ∃ v, e = .returned (.tuple #[v, .int .i64 0]) ∧ New (negW w #[.bool neg, .slice ao L.length cap, .int .i64 x]) w' v r ∧ Kept (negW w #[.bool neg, .slice ao L.length cap, .int .i64 x]) w') := by
    refine told_ok 86 _ (fun w => call_of Tryd.func86 (by kernel_rfl) (by kernel_rfl) _ w) _ r _ KV (fun u k => ?_)
    have hs := k.below.size
    simp only [negW, scaleW, World.size_alloc] at hs
    have hd := vld_dg _ _ _ hv
    exact neg_in_ok neg x L hd.2 hlen ao cap hcap r hf _ u (by omega) ((h.kept hW).kept k) ((hT.kept hW).kept k) ((k.below.cell (p := ⟨w.heap.size, 0, none⟩) (by simp <;> omega)).trans (by simp [go_sem])) ((k.below.cell (p := ⟨w.heap.size, 1, none⟩) (by simp <;> omega)).trans (by simp [go_sem])) ((k.below.cell (p := ⟨w.heap.size, 2, none⟩) (by simp <;> omega)).trans (by simp [go_sem]))
  have hmf : ∀ (fn : Fn) (first cap : Array Value) (w : World), (Instr.makeFunc fn first cap).run Tryd.prog w = .ok (.func fn first cap) w := fun _ _ _ _ => rfl
  clear h hT hv hR hlen KV hf
  generalize L.length = n at *
  go_enter Tryd.func42, Tryd.ntmps42
  go_wp2_with (first | (go_at_call 51; refine KT.out.mono ?_; rintro e w1 ⟨v, rfl, hN, hk1⟩; obtain ⟨vn, va, vl, vc, vx, rfl⟩ := hN.shape; obtain ⟨f0, f1, f2, f3⟩ := res_cells (w.heap.size + 1) (by simp <;> omega) hk1 (by simp [go_sem]) (by simp [go_sem]) (by simp [go_sem]) (fun o => by simp [go_sem])))
  have := res_done (w.heap.size + 1) (by omega) (by simp <;> omega) hW hN hk1 (.bool vn) (.slice va vl vc) (.int .i64 vx)
  refine bodyPost_ret (v := .tuple #[.agg #[.bool vn, .slice va vl vc, .int .i64 vx], .int .i64 0]) (by simp [results, Tryd.results42, go_sem, f0, f1, f2]) rfl ⟨_, rfl, this.1, this.2⟩

set_option maxHeartbeats 1000000 in
set_option maxRecDepth 100000 in
theorem neg_bad (neg : Bool) (L : List Int) (hR : Rg L) (hlen : L.length < 60000000) (ao : Option Addr) (cap : Nat) (hcap : ao = none → cap = 0) (x : Int) (hv : vld ⟨neg, L, x⟩ = false) (w : World) (h : Sl w (.slice ao L.length cap) L) (hT : Tab w) : Calls Tryd.prog 42 #[.agg #[.bool neg, .slice ao L.length cap, .int .i64 x]] w fun e w' => e = .returned (.tuple #[zeroNum, .int .i64 7]) ∧ Kept w w' := by
  have hW : Kept w (negW w #[.bool neg, .slice ao L.length cap, .int .i64 x]) := by first | exact negW_kept _ _ | exact scaleW_kept _ _ _
  have KV := allValid_at (W := negW w #[.bool neg, .slice ao L.length cap, .int .i64 x]) (w.heap.size + 2) (by simp) neg L hR (by omega) ao cap x (h.kept hW) (by simp [go_sem]) (by simp [go_sem]) (by simp [go_sem]) _ hv
  have KT : Hid (Calls Tryd.prog 51 #[.func (.func 86) #[] #[.pointer (some ⟨w.heap.size, 0, none⟩)], .slice (some ⟨w.heap.size + 2, 0, none⟩) 1 1] (negW w #[.bool neg, .slice ao L.length cap, .int .i64 x]) fun e w' => e = .returned (.tuple #[zeroNum, .int .i64 7]) ∧ Kept (negW w #[.bool neg, .slice ao L.length cap, .int .i64 x]) w') := told_bad _ _ _ KV
  have hmf : ∀ (fn : Fn) (first cap : Array Value) (w : World), (Instr.makeFunc fn first cap).run Tryd.prog w = .ok (.func fn first cap) w := fun _ _ _ _ => rfl
  clear h hT hv hR hlen KV
  generalize L.length = n at *
  go_enter Tryd.func42, Tryd.ntmps42
  go_wp2_with (first | (go_at_call 51; refine KT.out.mono ?_; rintro e w1 ⟨rfl, hk1⟩; obtain ⟨f0, f1, f2, f3⟩ := res_cells (w.heap.size + 1) (by simp <;> omega) hk1 (by simp [go_sem]) (by simp [go_sem]) (by simp [go_sem]) (fun o => by simp [go_sem])))
  refine bodyPost_ret (v := .tuple #[zeroNum, .int .i64 7]) (by simp [results, Tryd.results42, go_sem, f0, f1, f2]) rfl ⟨rfl, res_kept (w.heap.size + 1) (by omega) hW hk1 _ _ _⟩

set_option maxHeartbeats 1000000 in
set_option maxRecDepth 100000 in
theorem scale_ok (neg : Bool) (L : List Int) (hR : Rg L) (hlen : L.length < 60000000) (ao : Option Addr) (cap : Nat) (hcap : ao = none → cap = 0) (x : Int) (k0 y : Int) (hy : IntKind.i64.wrap (x + k0) = y) (hy2 : wrap64 (x + k0) = y) (hv : vld ⟨neg, L, x⟩ = true) (r : Nm) (hf : frm (neg) (nv L) y = some r) (w : World) (h : Sl w (.slice ao L.length cap) L) (hT : Tab w) : Calls Tryd.prog 28 #[.agg #[.bool neg, .slice ao L.length cap, .int .i64 x], .int .i64 k0] w fun e w' => ∃ v, e = .returned (.tuple #[v, .int .i64 0]) ∧ New w w' v r ∧ Kept w w' := by
  have hW : Kept w (scaleW w #[.bool neg, .slice ao L.length cap, .int .i64 x] k0) := by first | exact negW_kept _ _ | exact scaleW_kept _ _ _
  have KV := allValid_at (W := scaleW w #[.bool neg, .slice ao L.length cap, .int .i64 x] k0) (w.heap.size + 3) (by simp) neg L hR (by omega) ao cap x (h.kept hW) (by simp [go_sem]) (by simp [go_sem]) (by simp [go_sem]) _ hv
  have KT : Hid (Calls Tryd.prog 51 #[.func (.func 76) #[] #[.pointer (some ⟨w.heap.size, 0, none⟩), .pointer (some ⟨w.heap.size + 1, 0, none⟩)], .slice (some ⟨w.heap.size + 3, 0, none⟩) 1 1] (scaleW w #[.bool neg, .slice ao L.length cap, .int .i64 x] k0) fun e w' => ∃ v, e = .returned (.tuple #[v, .int .i64 0]) ∧ New (scaleW w #[.bool neg, .slice ao L.length cap, .int .i64 x] k0) w' v r ∧ Kept (scaleW w #[.bool neg, .slice ao L.length cap, .int .i64 x] k0) w') := by
    refine told_ok 76 _ (fun w => call_of Tryd.func76 (by kernel_rfl) (by kernel_rfl) _ w) _ r _ KV (fun u k => ?_)
    have hs := k.below.size
    simp only [negW, scaleW, World.size_alloc] at hs
    have hd := vld_dg _ _ _ hv
    exact scale_in_ok neg x k0 y hy hy2 L hd.2 hlen ao cap hcap r hf _ _ u (by omega) (by omega) ((h.kept hW).kept k) ((hT.kept hW).kept k) ((k.below.cell (p := ⟨w.heap.size, 0, none⟩) (by simp <;> omega)).trans (by simp [go_sem])) ((k.below.cell (p := ⟨w.heap.size, 1, none⟩) (by simp <;> omega)).trans (by simp [go_sem])) ((k.below.cell (p := ⟨w.heap.size, 2, none⟩) (by simp <;> omega)).trans (by simp [go_sem])) ((k.below.cell (p := ⟨w.heap.size + 1, 0, none⟩) (by simp <;> omega)).trans (by simp [go_sem]))
  have hmf : ∀ (fn : Fn) (first cap : Array Value) (w : World), (Instr.makeFunc fn first cap).run Tryd.prog w = .ok (.func fn first cap) w := fun _ _ _ _ => rfl
  clear h hT hv hR hlen KV hf
  generalize L.length = n at *
  go_enter Tryd.func28, Tryd.ntmps28
  go_wp2_with (first | (go_at_call 51; refine KT.out.mono ?_; rintro e w1 ⟨v, rfl, hN, hk1⟩; obtain ⟨vn, va, vl, vc, vx, rfl⟩ := hN.shape; obtain ⟨f0, f1, f2, f3⟩ := res_cells (w.heap.size + 2) (by simp <;> omega) hk1 (by simp [go_sem]) (by simp [go_sem]) (by simp [go_sem]) (fun o => by simp [go_sem])))
  have := res_done (w.heap.size + 2) (by omega) (by simp <;> omega) hW hN hk1 (.bool vn) (.slice va vl vc) (.int .i64 vx)
  refine bodyPost_ret (v := .tuple #[.agg #[.bool vn, .slice va vl vc, .int .i64 vx], .int .i64 0]) (by simp [results, Tryd.results28, go_sem, f0, f1, f2]) rfl ⟨_, rfl, this.1, this.2⟩

set_option maxHeartbeats 1000000 in
set_option maxRecDepth 100000 in
theorem scale_no (neg : Bool) (L : List Int) (hR : Rg L) (hlen : L.length < 60000000) (ao : Option Addr) (cap : Nat) (hcap : ao = none → cap = 0) (x : Int) (k0 y : Int) (hy : IntKind.i64.wrap (x + k0) = y) (hy2 : wrap64 (x + k0) = y) (hv : vld ⟨neg, L, x⟩ = true) (hf : frm (neg) (nv L) y = none) (w : World) (h : Sl w (.slice ao L.length cap) L) (hT : Tab w) : Calls Tryd.prog 28 #[.agg #[.bool neg, .slice ao L.length cap, .int .i64 x], .int .i64 k0] w fun e w' => e = .returned (.tuple #[zeroNum, .int .i64 2]) ∧ Kept w w' := by
  have hW : Kept w (scaleW w #[.bool neg, .slice ao L.length cap, .int .i64 x] k0) := by first | exact negW_kept _ _ | exact scaleW_kept _ _ _
  have KV := allValid_at (W := scaleW w #[.bool neg, .slice ao L.length cap, .int .i64 x] k0) (w.heap.size + 3) (by simp) neg L hR (by omega) ao cap x (h.kept hW) (by simp [go_sem]) (by simp [go_sem]) (by simp [go_sem]) _ hv
  have KT : Hid (Calls Tryd.prog 51 #[.func (.func 76) #[] #[.pointer (some ⟨w.heap.size, 0, none⟩), .pointer (some ⟨w.heap.size + 1, 0, none⟩)], .slice (some ⟨w.heap.size + 3, 0, none⟩) 1 1] (scaleW w #[.bool neg, .slice ao L.length cap, .int .i64 x] k0) fun e w' => e = .returned (.tuple #[zeroNum, .int .i64 2]) ∧ Kept (scaleW w #[.bool neg, .slice ao L.length cap, .int .i64 x] k0) w') := by
    refine told_no 76 _ (fun w => call_of Tryd.func76 (by kernel_rfl) (by kernel_rfl) _ w) _  _ KV (fun u k => ?_)
    have hs := k.below.size
    simp only [negW, scaleW, World.size_alloc] at hs
    have hd := vld_dg _ _ _ hv
    exact scale_in_no neg x k0 y hy hy2 L hd.2 hlen ao cap hcap  hf _ _ u (by omega) (by omega) ((h.kept hW).kept k) ((hT.kept hW).kept k) ((k.below.cell (p := ⟨w.heap.size, 0, none⟩) (by simp <;> omega)).trans (by simp [go_sem])) ((k.below.cell (p := ⟨w.heap.size, 1, none⟩) (by simp <;> omega)).trans (by simp [go_sem])) ((k.below.cell (p := ⟨w.heap.size, 2, none⟩) (by simp <;> omega)).trans (by simp [go_sem])) ((k.below.cell (p := ⟨w.heap.size + 1, 0, none⟩) (by simp <;> omega)).trans (by simp [go_sem]))
  have hmf : ∀ (fn : Fn) (first cap : Array Value) (w : World), (Instr.makeFunc fn first cap).run Tryd.prog w = .ok (.func fn first cap) w := fun _ _ _ _ => rfl
  clear h hT hv hR hlen KV hf
  generalize L.length = n at *
  go_enter Tryd.func28, Tryd.ntmps28
  go_wp2_with (first | (go_at_call 51; refine KT.out.mono ?_; rintro e w1 ⟨rfl, hk1⟩; obtain ⟨f0, f1, f2, f3⟩ := res_cells (w.heap.size + 2) (by simp <;> omega) hk1 (by simp [go_sem]) (by simp [go_sem]) (by simp [go_sem]) (fun o => by simp [go_sem])))
  refine bodyPost_ret (v := .tuple #[zeroNum, .int .i64 2]) (by simp [results, Tryd.results28, go_sem, f0, f1, f2]) rfl ⟨rfl, res_kept (w.heap.size + 2) (by omega) hW hk1 _ _ _⟩

set_option maxHeartbeats 1000000 in
set_option maxRecDepth 100000 in
theorem scale_bad (neg : Bool) (L : List Int) (hR : Rg L) (hlen : L.length < 60000000) (ao : Option Addr) (cap : Nat) (hcap : ao = none → cap = 0) (x : Int) (k0 y : Int) (hy : IntKind.i64.wrap (x + k0) = y) (hy2 : wrap64 (x + k0) = y) (hv : vld ⟨neg, L, x⟩ = false) (w : World) (h : Sl w (.slice ao L.length cap) L) (hT : Tab w) : Calls Tryd.prog 28 #[.agg #[.bool neg, .slice ao L.length cap, .int .i64 x], .int .i64 k0] w fun e w' => e = .returned (.tuple #[zeroNum, .int .i64 7]) ∧ Kept w w' := by
  have hW : Kept w (scaleW w #[.bool neg, .slice ao L.length cap, .int .i64 x] k0) := by first | exact negW_kept _ _ | exact scaleW_kept _ _ _
  have KV := allValid_at (W := scaleW w #[.bool neg, .slice ao L.length cap, .int .i64 x] k0) (w.heap.size + 3) (by simp) neg L hR (by omega) ao cap x (h.kept hW) (by simp [go_sem]) (by simp [go_sem]) (by simp [go_sem]) _ hv
  have KT : Hid (Calls Tryd.prog 51 #[.func (.func 76) #[] #[.pointer (some ⟨w.heap.size, 0, none⟩), .pointer (some ⟨w.heap.size + 1, 0, none⟩)], .slice (some ⟨w.heap.size + 3, 0, none⟩) 1 1] (scaleW w #[.bool neg, .slice ao L.length cap, .int .i64 x] k0) fun e w' => e = .returned (.tuple #[zeroNum, .int .i64 7]) ∧ Kept (scaleW w #[.bool neg, .slice ao L.length cap, .int .i64 x] k0) w') := told_bad _ _ _ KV
  have hmf : ∀ (fn : Fn) (first cap : Array Value) (w : World), (Instr.makeFunc fn first cap).run Tryd.prog w = .ok (.func fn first cap) w := fun _ _ _ _ => rfl
  clear h hT hv hR hlen KV
  generalize L.length = n at *
  go_enter Tryd.func28, Tryd.ntmps28
  go_wp2_with (first | (go_at_call 51; refine KT.out.mono ?_; rintro e w1 ⟨rfl, hk1⟩; obtain ⟨f0, f1, f2, f3⟩ := res_cells (w.heap.size + 2) (by simp <;> omega) hk1 (by simp [go_sem]) (by simp [go_sem]) (by simp [go_sem]) (fun o => by simp [go_sem])))
  refine bodyPost_ret (v := .tuple #[zeroNum, .int .i64 7]) (by simp [results, Tryd.results28, go_sem, f0, f1, f2]) rfl ⟨rfl, res_kept (w.heap.size + 2) (by omega) hW hk1 _ _ _⟩

set_option maxHeartbeats 1000000 in
theorem sign_ok (neg : Bool) (L : List Int) (hR : Rg L) (hlen : L.length < 60000000) (ao : Option Addr) (cap : Nat) (x : Int) (hv : vld ⟨neg, L, x⟩ = true) (w : World) (h : Sl w (.slice ao L.length cap) L) : Calls Tryd.prog 20 #[.agg #[.bool neg, .slice ao L.length cap, .int .i64 x]] w fun e w' => e = .returned (.tuple #[.int .i64 (if L.length = 0 then 0 else if neg = true then -1 else 1), .int .i64 0]) ∧ Kept w w' := by
  have hK := (Kept.refl w).alloc #[.bool neg, .slice ao L.length cap, .int .i64 x] 31
  have K1 : Hid (Calls Tryd.prog 22 #[.agg #[.bool neg, .slice ao L.length cap, .int .i64 x]] (w.alloc (.cells #[.bool neg, .slice ao L.length cap, .int .i64 x] 31)) fun e w' => e = .returned (.bool true) ∧ Kept (w.alloc (.cells #[.bool neg, .slice ao L.length cap, .int .i64 x] 31)) w') := by
    have := xvalid_any ⟨neg, L, x⟩ hR (by dsimp only; omega) (.agg #[.bool neg, .slice ao L.length cap, .int .i64 x]) _ ⟨_, rfl, h.kept hK⟩
    rw [hv] at this
    exact this
  clear hR hlen hv h
  generalize L.length = n at *
  obtain ⟨s, hs⟩ : ∃ s : Int, s = if n = 0 then 0 else if neg = true then -1 else 1 := ⟨_, rfl⟩
  have HS : Hid (s = if n = 0 then 0 else if neg = true then -1 else 1) := hs
  rw [← hs]
  clear hs
  go_enter Tryd.func20, Tryd.ntmps20
  go_wp2_with (first | (go_at_call 22; refine K1.out.mono ?_; rintro e w1 ⟨rfl, hk1⟩; have hcl := laid_cell hk1) | (go_at_call 58; refine (signOf_any neg ao n cap x _).mono ?_; rintro e w2 ⟨rfl, hk2⟩; rw [← HS.out]))
  go_ret2
  exact ⟨rfl, (hK.trans hk1).trans hk2⟩

set_option maxHeartbeats 1000000 in
theorem sign_bad (neg : Bool) (L : List Int) (hR : Rg L) (hlen : L.length < 60000000) (ao : Option Addr) (cap : Nat) (x : Int) (hv : vld ⟨neg, L, x⟩ = false) (w : World) (h : Sl w (.slice ao L.length cap) L) : Calls Tryd.prog 20 #[.agg #[.bool neg, .slice ao L.length cap, .int .i64 x]] w fun e w' => e = .returned (.tuple #[.int .i64 0, .int .i64 7]) ∧ Kept w w' := by
  have hK := (Kept.refl w).alloc #[.bool neg, .slice ao L.length cap, .int .i64 x] 31
  have K1 : Hid (Calls Tryd.prog 22 #[.agg #[.bool neg, .slice ao L.length cap, .int .i64 x]] (w.alloc (.cells #[.bool neg, .slice ao L.length cap, .int .i64 x] 31)) fun e w' => e = .returned (.bool false) ∧ Kept (w.alloc (.cells #[.bool neg, .slice ao L.length cap, .int .i64 x] 31)) w') := by
    have := xvalid_any ⟨neg, L, x⟩ hR (by dsimp only; omega) (.agg #[.bool neg, .slice ao L.length cap, .int .i64 x]) _ ⟨_, rfl, h.kept hK⟩
    rw [hv] at this
    exact this
  clear hR hlen hv h
  generalize L.length = n at *
  go_enter Tryd.func20, Tryd.ntmps20
  go_wp2_with (first | (go_at_call 22; refine K1.out.mono ?_; rintro e w1 ⟨rfl, hk1⟩; have hcl := laid_cell hk1))
  go_ret2
  exact ⟨rfl, hK.trans hk1⟩

end Go.Proofs.YtbfjnihjookkjaaDoor
