/- The walks of the closures that clone and form: Make's,Neg's,Scale's. The walks of exact's Make,Neg,Scale,Sign,Int. The walks of exact's Neg,Scale,Sign,Int. -/
import Derived.Test.YtnniljhdcplkgaaGreatDoorWr09
namespace Go.Proofs.YtnniljhdcplkgaaGreatDoor
open Go.ChangeShapes Go.WideShapes Go.ChangeAt Go.RowKit
set_option maxHeartbeats 16000000
set_option maxRecDepth 100000
set_option linter.unusedVariables false
set_option linter.unusedSimpArgs false
end Go.Proofs.YtnniljhdcplkgaaGreatDoor
namespace Go.Proofs.YtnniljhdcplkgaaGreatDoor
open Go.ChangeShapes Go.WideShapes Go.ChangeAt Go.RowKit
set_option maxHeartbeats 16000000
set_option maxRecDepth 100000
set_option linter.unusedVariables false
set_option linter.unusedSimpArgs false
theorem call_of {P : Program} {f : FuncId} {fn : Func} (hf : P.funcs[f]? = some fn) (h1 : (fn.name == "runtime.NumGoroutine") = false) (h2 : fn.body.isNone = false) (caps : Array Value) (w : World) : (callFunc f caps).run P w = .ok (.enter f caps) w := by
 have h3 : ¬ fn.name = "runtime.NumGoroutine" := by simpa using h1
 have h4 : ¬ fn.body = none:=by intro h; rw [h] at h2; cases h2
 simp [callFunc,hf,go_sem,h3,h4]
/-- What a result's cells hold at the end: the block H is the result's own,laid before the call. -/
theorem res_cells {W w1 : World} (H : Nat) (hH : H < W.heap.size) (h : Kept W w1) (c0 : W.cell? ⟨H,0,none⟩ = some (.bool false)) (c1 : W.cell? ⟨H,1,none⟩ = some (.slice none 0 0)) (c2 : W.cell? ⟨H,2,none⟩ = some (.int .i64 0)) (f : ∀ o,W.frozen? ⟨H,o,none⟩ = false) : w1.cell? ⟨H,0,none⟩ = some (.bool false) ∧ w1.cell? ⟨H,1,none⟩ = some (.slice none 0 0) ∧ w1.cell? ⟨H,2,none⟩ = some (.int .i64 0) ∧ (∀ o,w1.frozen? ⟨H,o,none⟩ = false) :=
 ⟨(h.below.cell (p:=⟨H,0,none⟩) hH).trans c0,(h.below.cell (p:=⟨H,1,none⟩) hH).trans c1,(h.below.cell (p:=⟨H,2,none⟩) hH).trans c2,fun o => (h.frozen _).trans (f o)⟩
theorem res_done {w W u2 : World} {v : Value} {r : Nm} (H : Nat) (hw : w.heap.size ≤ H) (hH : H < W.heap.size) (h0 : Kept w W) (hN : New W u2 v r) (hk : Kept W u2) (a b c : Value) : New w (((u2.setCell ⟨H,0,none⟩ a).setCell ⟨H,1,none⟩ b).setCell ⟨H,2,none⟩ c) v r ∧ Kept w (((u2.setCell ⟨H,0,none⟩ a).setCell ⟨H,1,none⟩ b).setCell ⟨H,2,none⟩ c):=by
 constructor
 ·rcases hN with h | ⟨g,cap,e,hg,ho,hne⟩
  ·exact .inl h
  ·exact .inr ⟨g,cap,e,by omega,((ho.setOther (by simp; omega) _).setOther (by simp; omega) _).setOther (by simp; omega) _,hne⟩
 ·exact (h0.trans hk).setCell (by simpa using hw) _ |>.setCell (by simpa using hw) _ |>.setCell (by simpa using hw) _
theorem res_kept {w W u2 : World} (H : Nat) (hw : w.heap.size ≤ H) (h0 : Kept w W) (hk : Kept W u2) (a b c : Value) : Kept w (((u2.setCell ⟨H,0,none⟩ a).setCell ⟨H,1,none⟩ b).setCell ⟨H,2,none⟩ c) :=
 (h0.trans hk).setCell (by simpa using hw) _ |>.setCell (by simpa using hw) _ |>.setCell (by simpa using hw) _
abbrev nilNum : Obj:=.cells #[.bool false,.slice none 0 0,.int .i64 0] 43
end Go.Proofs.YtnniljhdcplkgaaGreatDoor
namespace Go.Proofs.YtnniljhdcplkgaaGreatDoor
open Go.ChangeShapes Go.WideShapes Go.ChangeAt Go.RowKit
set_option maxHeartbeats 16000000
set_option maxRecDepth 100000
set_option linter.unusedVariables false
set_option linter.unusedSimpArgs false
theorem and_one (d : Int) : bits .and .i64 d 1 = d % 2:=by
 have e : (BitVec.ofInt 64 1 : BitVec 64).toNat = 2 ^ 1 - 1:=by decide
 have h:=ofInt_toNat d
 rw [bits_and,BitVec.toNat_and,e,Nat.and_two_pow_sub_one_eq_mod,wrap_i64]
 omega
/-- What a valid number that is not 0 says of itself. -/
theorem vld_some (neg : Bool) (L : List Int) (x : Int) (hne : L ≠ []) (h : vld ⟨neg,L,x⟩ = true) : L.length ≤ 2000 ∧ Dg L ∧ L.getD (L.length - 1) 0 ≠ 0 ∧ L.getD 0 0 % 2 = 1 ∧ -1048576 ≤ x ∧ x ≤ 1048576:=by
 unfold vld vldN at h
 simp only [hne,if_false,Bool.and_eq_true,decide_eq_true_eq,bne_iff_ne,beq_iff_eq,and_one] at h
 obtain ⟨⟨⟨⟨⟨h1,h2⟩,h3⟩,h4⟩,h5⟩,h6⟩:=h
 exact ⟨by omega,(dgb_iff L).1 h2,h3,h4,h5,h6⟩
theorem vld_nil (neg : Bool) (x : Int) (h : vld ⟨neg,[],x⟩ = true) : neg = false ∧ x = 0:=by
 simpa [vld] using h
theorem vld_dg (neg : Bool) (L : List Int) (x : Int) (h : vld ⟨neg,L,x⟩ = true) : L.length ≤ 2000 ∧ Dg L:=by
 by_cases hne : L = []
 ·subst hne; exact ⟨by simp,Dg.nil⟩
 ·have:=vld_some neg L x hne h
  exact ⟨this.1,this.2.1⟩
theorem nv_odd (L : List Int) (hL : Dg L) (h : L.getD 0 0 % 2 = 1) : nv L % 2 = 1:=by
 have h1:=nv_getD L hL 0
 have h2:=hL.getD 0
 rw [Nat.mul_zero,Nat.pow_zero,Nat.div_one] at h1
 omega
theorem frm_odd (neg b : Bool) (L : List Int) (x y : Int) (hne : L ≠ []) (h : vld ⟨neg,L,x⟩ = true) : frm b (nv L) y = if -1048576 ≤ wrap64 y ∧ wrap64 y ≤ 1048576 then some ⟨b,L,wrap64 y⟩ else none:=by
 obtain ⟨h1,h2,h3,h4,h5,h6⟩:=vld_some neg L x hne h
 have ho:=nv_odd L h2 h4
 have hz:=tzn_odd _ ho
 have hb:=bl_le _ _ (nv_lt L h2)
 have hd:=digs_nv L h2 (.inr h3)
 unfold frm
 rw [if_neg (by omega),hz]
 simp only [Nat.pow_zero,Nat.div_one,hd,Int.natCast_zero,Int.add_zero,Nat.sub_zero]
 by_cases hy : -1048576 ≤ wrap64 y ∧ wrap64 y ≤ 1048576
 ·rw [if_pos hy,if_pos ⟨by omega,hy⟩]
 ·rw [if_neg hy,if_neg (fun hh => hy hh.2)]
/-- All that is handed in is looked at: one number,behind the call's own blocks. -/
theorem allValid_at {W : World} (b : Nat) (hb : b < W.heap.size) (neg : Bool) (L : List Int) (hR : Rg L) (hlen : L.length < 100000000) (ao : Option Addr) (cap : Nat) (x : Int) (h : Sl W (.slice ao L.length cap) L) (c0 : W.cell? ⟨b,0,none⟩ = some (.bool neg)) (c1 : W.cell? ⟨b,1,none⟩ = some (.slice ao L.length cap)) (c2 : W.cell? ⟨b,2,none⟩ = some (.int .i64 x)) (g : Bool) (hg : vld ⟨neg,L,x⟩ = g) :
  Hid (∀ w',Kept W w' → Calls Tryz.prog 124 #[.slice (some ⟨b,0,none⟩) 1 1] w' fun e w'' => e = .returned (.bool g) ∧ Kept w' w''):=fun w' k => by
 subst hg
 refine allValid_1 w' b 1 neg ao L.length cap x _ (Nat.lt_of_lt_of_le hb k.below.size) ((k.below.cell (p:=⟨b,0,none⟩) hb).trans c0) ((k.below.cell (p:=⟨b,1,none⟩) hb).trans c1) ((k.below.cell (p:=⟨b,2,none⟩) hb).trans c2) (fun u ku => ?_)
 exact xvalid_any ⟨neg,L,x⟩ hR hlen _ u ⟨_,rfl,(h.kept k).kept ku⟩
end Go.Proofs.YtnniljhdcplkgaaGreatDoor
