/- The walks of exact's Make, Neg, Scale, Sign, Int. -/
import Derived.Test.YtkmengfmiamdaaaDoorD9
namespace Go.Proofs.YtkmengfmiamdaaaDoor
open Go.ChangeShapes Go.WideShapes Go.ChangeAt Go.RowKit
set_option linter.unusedVariables false
set_option linter.unusedSimpArgs false

theorem call_of {P : Program} {f : FuncId} {fn : Func} (hf : P.funcs[f]? = some fn) (h1 : (fn.name == "runtime.NumGoroutine") = false) (h2 : fn.body.isNone = false) (caps : Array Value) (w : World) : (callFunc f caps).run P w = .ok (.enter f caps) w := by
  have h3 : ¬ fn.name = "runtime.NumGoroutine" := by simpa using h1
  have h4 : ¬ fn.body = none := by intro h; rw [h] at h2; cases h2
  simp [callFunc, hf, go_sem, h3, h4]

/-- What a result's cells hold at the end: the block H is the result's own, laid before the call. -/
theorem res_cells {W w1 : World} (H : Nat) (hH : H < W.heap.size) (h : Kept W w1) (c0 : W.cell? ⟨H, 0, none⟩ = some (.bool false)) (c1 : W.cell? ⟨H, 1, none⟩ = some (.slice none 0 0)) (c2 : W.cell? ⟨H, 2, none⟩ = some (.int .i64 0)) (f : ∀ o, W.frozen? ⟨H, o, none⟩ = false) : w1.cell? ⟨H, 0, none⟩ = some (.bool false) ∧ w1.cell? ⟨H, 1, none⟩ = some (.slice none 0 0) ∧ w1.cell? ⟨H, 2, none⟩ = some (.int .i64 0) ∧ (∀ o, w1.frozen? ⟨H, o, none⟩ = false) :=
  ⟨(h.below.cell (p := ⟨H, 0, none⟩) hH).trans c0, (h.below.cell (p := ⟨H, 1, none⟩) hH).trans c1, (h.below.cell (p := ⟨H, 2, none⟩) hH).trans c2, fun o => (h.frozen _).trans (f o)⟩
theorem res_done {w W u2 : World} {v : Value} {r : Nm} (H : Nat) (hw : w.heap.size ≤ H) (hH : H < W.heap.size) (h0 : Kept w W) (hN : New W u2 v r) (hk : Kept W u2) (a b c : Value) : New w (((u2.setCell ⟨H, 0, none⟩ a).setCell ⟨H, 1, none⟩ b).setCell ⟨H, 2, none⟩ c) v r ∧ Kept w (((u2.setCell ⟨H, 0, none⟩ a).setCell ⟨H, 1, none⟩ b).setCell ⟨H, 2, none⟩ c) := by
  constructor
  · rcases hN with h | ⟨g, cap, e, hg, ho, hne⟩
    · exact .inl h
    · exact .inr ⟨g, cap, e, by omega, ((ho.setOther (by simp; omega) _).setOther (by simp; omega) _).setOther (by simp; omega) _, hne⟩
  · exact (h0.trans hk).setCell (by simpa using hw) _ |>.setCell (by simpa using hw) _ |>.setCell (by simpa using hw) _
theorem res_kept {w W u2 : World} (H : Nat) (hw : w.heap.size ≤ H) (h0 : Kept w W) (hk : Kept W u2) (a b c : Value) : Kept w (((u2.setCell ⟨H, 0, none⟩ a).setCell ⟨H, 1, none⟩ b).setCell ⟨H, 2, none⟩ c) :=
  (h0.trans hk).setCell (by simpa using hw) _ |>.setCell (by simpa using hw) _ |>.setCell (by simpa using hw) _

abbrev nilNum : Obj := .cells #[.bool false, .slice none 0 0, .int .i64 0] 31
abbrev makeW (w : World) (neg : Bool) (sv : Value) (x : Int) : World := (((w.alloc (.cells #[.bool neg] 4)).alloc (.cells #[sv] 22)).alloc (.cells #[.int .i64 x] 3)).alloc nilNum
theorem makeW_kept (w : World) (neg : Bool) (sv : Value) (x : Int) : Kept w (makeW w neg sv x) := ((((Kept.refl w).alloc _ _).alloc _ _).alloc _ _).alloc _ _

set_option maxHeartbeats 1000000 in
set_option maxRecDepth 100000 in
theorem make_ok (neg : Bool) (L : List Int) (hL : Dg L) (hlen : L.length ≤ 2000) (ao : Option Addr) (cap : Nat) (hcap : ao = none → cap = 0) (x : Int) (r : Nm) (hf : frm neg (nv L) x = some r) (w : World) (h : Sl w (.slice ao L.length cap) L) (hT : Tab w) : Calls Tryd.prog 19 #[.bool neg, .slice ao L.length cap, .int .i64 x] w fun e w' => ∃ v, e = .returned (.tuple #[v, .int .i64 0]) ∧ New w w' v r ∧ Kept w w' := by
  have hW := makeW_kept w neg (.slice ao L.length cap) x
  have KA : Hid (Calls Tryd.prog 49 #[.slice ao L.length cap] (makeW w neg (.slice ao L.length cap) x) fun e w' => e = .returned (.bool true) ∧ (makeW w neg (.slice ao L.length cap) x) = w') := by
    have := areDigits_any L hL.rg (by omega) _ _ (h.kept hW)
    rw [(dgb_iff L).2 hL] at this
    exact this
  have KT : Hid (Calls Tryd.prog 39 #[.func (.func 50) #[] #[.pointer (some ⟨w.heap.size, 0, none⟩), .pointer (some ⟨w.heap.size + 1, 0, none⟩), .pointer (some ⟨w.heap.size + 2, 0, none⟩)], .slice none 0 0] (makeW w neg (.slice ao L.length cap) x) fun e w' => ∃ v, e = .returned (.tuple #[v, .int .i64 0]) ∧ New (makeW w neg (.slice ao L.length cap) x) w' v r ∧ Kept (makeW w neg (.slice ao L.length cap) x) w') := by
    refine told_ok 50 _ (fun w => call_of Tryd.func50 (by kernel_rfl) (by kernel_rfl) _ w) _ r _ (fun u k => allValid_0 u) (fun u k => ?_)
    have hs := k.below.size
    simp only [makeW, World.size_alloc] at hs
    exact make_in_ok neg x L hL (by omega) ao cap hcap r hf _ _ _ u (by omega) (by omega) (by omega) ((h.kept hW).kept k) ((hT.kept hW).kept k) ((k.below.cell (p := ⟨w.heap.size, 0, none⟩) (by simp; omega)).trans (by simp [go_sem])) ((k.below.cell (p := ⟨w.heap.size + 1, 0, none⟩) (by simp <;> omega)).trans (by simp [go_sem])) ((k.below.cell (p := ⟨w.heap.size + 2, 0, none⟩) (by simp)).trans (by simp [go_sem]))
  have hlen2 : (L.length : Int) ≤ 2000 := by omega
  have hmf : ∀ (fn : Fn) (first cap : Array Value) (w : World), (Instr.makeFunc fn first cap).run Tryd.prog w = .ok (.func fn first cap) w := fun _ _ _ _ => rfl
  clear h hT hf hL hlen
  generalize L.length = n at *
  go_enter Tryd.func19, Tryd.ntmps19
  go_wp2_with (first | (go_at_call 49; refine KA.out.mono ?_; rintro e w1 ⟨rfl, rfl⟩) | (go_at_call 39; refine KT.out.mono ?_; rintro e w1 ⟨v, rfl, hN, hk1⟩; obtain ⟨vn, va, vl, vc, vx, rfl⟩ := hN.shape; obtain ⟨f0, f1, f2, f3⟩ := res_cells (w.heap.size + 3) (by simp) hk1 (by simp [go_sem]) (by simp [go_sem]) (by simp [go_sem]) (fun o => by simp [go_sem])))
  have := res_done (w.heap.size + 3) (by omega) (by simp) hW hN hk1 (.bool vn) (.slice va vl vc) (.int .i64 vx)
  refine bodyPost_ret (v := .tuple #[.agg #[.bool vn, .slice va vl vc, .int .i64 vx], .int .i64 0]) (by simp [results, Tryd.results19, go_sem, f0, f1, f2]) rfl ⟨_, rfl, this.1, this.2⟩

set_option maxHeartbeats 1000000 in
set_option maxRecDepth 100000 in
theorem make_no (neg : Bool) (L : List Int) (hL : Dg L) (hlen : L.length ≤ 2000) (ao : Option Addr) (cap : Nat) (hcap : ao = none → cap = 0) (x : Int)  (hf : frm neg (nv L) x = none) (w : World) (h : Sl w (.slice ao L.length cap) L) (hT : Tab w) : Calls Tryd.prog 19 #[.bool neg, .slice ao L.length cap, .int .i64 x] w fun e w' => e = .returned (.tuple #[zeroNum, .int .i64 2]) ∧ Kept w w' := by
  have hW := makeW_kept w neg (.slice ao L.length cap) x
  have KA : Hid (Calls Tryd.prog 49 #[.slice ao L.length cap] (makeW w neg (.slice ao L.length cap) x) fun e w' => e = .returned (.bool true) ∧ (makeW w neg (.slice ao L.length cap) x) = w') := by
    have := areDigits_any L hL.rg (by omega) _ _ (h.kept hW)
    rw [(dgb_iff L).2 hL] at this
    exact this
  have KT : Hid (Calls Tryd.prog 39 #[.func (.func 50) #[] #[.pointer (some ⟨w.heap.size, 0, none⟩), .pointer (some ⟨w.heap.size + 1, 0, none⟩), .pointer (some ⟨w.heap.size + 2, 0, none⟩)], .slice none 0 0] (makeW w neg (.slice ao L.length cap) x) fun e w' => e = .returned (.tuple #[zeroNum, .int .i64 2]) ∧ Kept (makeW w neg (.slice ao L.length cap) x) w') := by
    refine told_no 50 _ (fun w => call_of Tryd.func50 (by kernel_rfl) (by kernel_rfl) _ w) _  _ (fun u k => allValid_0 u) (fun u k => ?_)
    have hs := k.below.size
    simp only [makeW, World.size_alloc] at hs
    exact make_in_no neg x L hL (by omega) ao cap hcap  hf _ _ _ u (by omega) (by omega) (by omega) ((h.kept hW).kept k) ((hT.kept hW).kept k) ((k.below.cell (p := ⟨w.heap.size, 0, none⟩) (by simp; omega)).trans (by simp [go_sem])) ((k.below.cell (p := ⟨w.heap.size + 1, 0, none⟩) (by simp <;> omega)).trans (by simp [go_sem])) ((k.below.cell (p := ⟨w.heap.size + 2, 0, none⟩) (by simp)).trans (by simp [go_sem]))
  have hlen2 : (L.length : Int) ≤ 2000 := by omega
  have hmf : ∀ (fn : Fn) (first cap : Array Value) (w : World), (Instr.makeFunc fn first cap).run Tryd.prog w = .ok (.func fn first cap) w := fun _ _ _ _ => rfl
  clear h hT hf hL hlen
  generalize L.length = n at *
  go_enter Tryd.func19, Tryd.ntmps19
  go_wp2_with (first | (go_at_call 49; refine KA.out.mono ?_; rintro e w1 ⟨rfl, rfl⟩) | (go_at_call 39; refine KT.out.mono ?_; rintro e w1 ⟨rfl, hk1⟩; obtain ⟨f0, f1, f2, f3⟩ := res_cells (w.heap.size + 3) (by simp) hk1 (by simp [go_sem]) (by simp [go_sem]) (by simp [go_sem]) (fun o => by simp [go_sem])))
  refine bodyPost_ret (v := .tuple #[zeroNum, .int .i64 2]) (by simp [results, Tryd.results19, go_sem, f0, f1, f2]) rfl ⟨rfl, res_kept (w.heap.size + 3) (by omega) hW hk1 _ _ _⟩

set_option maxHeartbeats 1000000 in
set_option maxRecDepth 100000 in
theorem make_bad (neg : Bool) (L : List Int) (hR : Rg L) (hlen : L.length < 100000000) (hbad : 2000 < L.length ∨ dgb L = false) (ao : Option Addr) (cap : Nat) (x : Int) (w : World) (h : Sl w (.slice ao L.length cap) L) : Calls Tryd.prog 19 #[.bool neg, .slice ao L.length cap, .int .i64 x] w fun e w' => e = .returned (.tuple #[zeroNum, .int .i64 7]) ∧ Kept w w' := by
  have hW := makeW_kept w neg (.slice ao L.length cap) x
  have KA : Hid (Calls Tryd.prog 49 #[.slice ao L.length cap] (makeW w neg (.slice ao L.length cap) x) fun e w' => e = .returned (.bool (dgb L)) ∧ (makeW w neg (.slice ao L.length cap) x) = w') := areDigits_any L hR (by omega) _ _ (h.kept hW)
  rcases (show 2000 < (L.length : Int) ∨ ((L.length : Int) ≤ 2000 ∧ dgb L = false) by rcases hbad with h | h; exact .inl (by omega); by_cases hl : 2000 < (L.length : Int); exact .inl hl; exact .inr ⟨by omega, h⟩) with h1 | ⟨h1, h2⟩
  · clear h hbad hlen
    generalize L.length = n at *
    go_enter Tryd.func19, Tryd.ntmps19
    go_wp2
    refine bodyPost_ret (v := .tuple #[zeroNum, .int .i64 7]) (by simp [results, Tryd.results19, go_sem]) rfl ⟨rfl, hW⟩
  · rw [h2] at KA
    clear h hbad hlen h2
    generalize L.length = n at *
    go_enter Tryd.func19, Tryd.ntmps19
    go_wp2_with (first | (go_at_call 49; refine KA.out.mono ?_; rintro e w1 ⟨rfl, rfl⟩))
    refine bodyPost_ret (v := .tuple #[zeroNum, .int .i64 7]) (by simp [results, Tryd.results19, go_sem]) rfl ⟨rfl, hW⟩

end Go.Proofs.YtkmengfmiamdaaaDoor
