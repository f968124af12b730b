/- The walks of the closures that clone and form: Make's,Neg's,Scale's. The walks of exact's Make,Neg,Scale,Sign,Int. The walks of exact's Neg,Scale,Sign,Int. The walks of the laws' own Same and SameNum at what is the same. -/
import Derived.Test.YtelbefihigkhjaaGreatDoorWa09
import Derived.Test.YtelbefihigkhjaaGreatDoorWa07
namespace Go.Proofs.YtelbefihigkhjaaGreatDoor
open Go.ChangeShapes Go.WideShapes Go.ChangeAt Go.RowKit
set_option maxHeartbeats 16000000
set_option maxRecDepth 100000
set_option linter.unusedVariables false
set_option linter.unusedSimpArgs false
theorem scale_in_ok (neg : Bool) (x k0 y : Int) (hy : IntKind.i64.wrap (x + k0) = y) (hy2 : wrap64 (x + k0) = y) (L : List Int) (hL : Dg L) (hlen : L.length < 60000000) (ao : Option Addr) (cap : Nat) (hcap : ao = none → cap = 0) (r : Nm) (hf : frm (neg) (nv L) (y) = some r) (p q : Nat) (w : World) (hp : p < w.heap.size) (hq : q < w.heap.size) (h : Sl w (.slice ao L.length cap) L) (hT : Tab w)
  (c0 : w.cell? ⟨p,0,none⟩ = some (.bool neg)) (c1 : w.cell? ⟨p,1,none⟩ = some (.slice ao L.length cap)) (c2 : w.cell? ⟨p,2,none⟩ = some (.int .i64 x)) (c3 : w.cell? ⟨q,0,none⟩ = some (.int .i64 k0)) : Calls Tryz.prog 300 #[.pointer (some ⟨p,0,none⟩),.pointer (some ⟨q,0,none⟩)] w fun e w' => (∃ v,e = .returned v ∧ New w w' v r) ∧ Kept w w':=by
 have hK:=(Kept.refl w).alloc #[.bool false,.slice none 0 0,.int .i64 0] 78
 have C0 : Hid (∀ u,Kept w u → u.cell? ⟨p,0,none⟩ = some (.bool neg)):=fun u k => (k.below.cell (p:=⟨p,0,none⟩) hp).trans c0
 have C1 : Hid (∀ u,Kept w u → u.cell? ⟨p,1,none⟩ = some (.slice ao L.length cap)):=fun u k => (k.below.cell (p:=⟨p,1,none⟩) hp).trans c1
 have C2 : Hid (∀ u,Kept w u → u.cell? ⟨p,2,none⟩ = some (.int .i64 x)):=fun u k => (k.below.cell (p:=⟨p,2,none⟩) hp).trans c2
 have C3 : Hid (∀ u,Kept w u → u.cell? ⟨q,0,none⟩ = some (.int .i64 k0)):=fun u k => (k.below.cell (p:=⟨q,0,none⟩) hq).trans c3
 have KC : Hid (∀ u,Kept w u → Calls Tryz.prog 157 #[.slice ao L.length cap] u fun e w' => (∃ sv,e = .returned sv ∧ Cl u w' sv L) ∧ Kept u w'):=fun u k => clone_any L (by omega) ao cap hcap u (h.kept k)
 have KF : Hid (∀ u0 u sv,Kept w u0 → Kept u0 u → Cl u0 u sv L → Calls Tryz.prog 246 #[.bool (neg),sv,.int .i64 (y)] u fun e w' => (∃ v,e = .returned v ∧ New u0 w' v r) ∧ Kept u0 w'):=fun u0 u sv k0 k1 hc => form_cl_ok (neg) L hL hlen sv (y) u0 u k1 hc (hT.kept (k0.trans k1)) r hf
 clear c0 c1 c2 c3 h hT hf
 generalize L.length = n at *
 have hD : Kept (numW w) (numW w).drew:=(Kept.refl _).drew
 have HS : Hid (∀ u,Kept w u → Kept w u ∧ u.cell? ⟨p,0,none⟩ = some (.bool neg) ∧ u.cell? ⟨p,1,none⟩ = some (.slice ao n cap) ∧ u.cell? ⟨p,2,none⟩ = some (.int .i64 x) ∧ u.cell? ⟨q,0,none⟩ = some (.int .i64 k0)):=fun u k => ⟨k,C0.out u k,C1.out u k,C2.out u k,C3.out u k⟩
 go_enter Tryz.func300,Tryz.ntmps300
 go_wp2
 go_region_held (fun u => Kept w u ∧ u.cell? ⟨p,0,none⟩ = some (.bool neg) ∧ u.cell? ⟨p,1,none⟩ = some (.slice ao n cap) ∧ u.cell? ⟨p,2,none⟩ = some (.int .i64 x) ∧ u.cell? ⟨q,0,none⟩ = some (.int .i64 k0)) (first | exact HS.out _ hK.drew | assumption | exact HS.out _ ((num_done hN k2 _ _ _).2)) (first | (go_at_call 157; refine (KC.out _ hK.drew).mono ?_; rintro e u1 ⟨⟨sv,rfl,hcl⟩,k1⟩; have e0:=HS.out _ (hK.drew.trans k1)) | (go_at_call 246; refine (KF.out (numW w) _ _ hK (hD.trans k1) (hcl.from hD)).mono ?_; rintro e u2 ⟨⟨v,rfl,hN⟩,k2⟩; obtain ⟨f0,f1,f2,f3⟩:=num_cells k2; obtain ⟨vn,va,vl,vc,vx,rfl⟩:=hN.shape; have e0:=HS.out _ (hK.trans k2)))
 all_goals
  go_wp2
  refine bodyPost_ret (v:=.agg #[.bool vn,.slice va vl vc,.int .i64 vx]) (by simp [results,Tryz.results300,go_sem,f0,f1,f2]) rfl ?_
  have:=num_done hN k2 (.bool vn) (.slice va vl vc) (.int .i64 vx)
  exact ⟨⟨_,rfl,this.1⟩,this.2⟩
end Go.Proofs.YtelbefihigkhjaaGreatDoor
namespace Go.Proofs.YtelbefihigkhjaaGreatDoor
open Go.ChangeShapes Go.WideShapes Go.ChangeAt Go.RowKit
set_option maxHeartbeats 16000000
set_option maxRecDepth 100000
set_option linter.unusedVariables false
set_option linter.unusedSimpArgs false
theorem call_of {P : Program} {f : FuncId} {fn : Func} (hf : P.funcs[f]? = some fn) (h1 : (fn.name == "runtime.NumGoroutine") = false) (h2 : fn.body.isNone = false) (caps : Array Value) (w : World) : (callFunc f caps).run P w = .ok (.enter f caps) w := by
 have h3 : ¬ fn.name = "runtime.NumGoroutine" := by simpa using h1
 have h4 : ¬ fn.body = none:=by intro h; rw [h] at h2; cases h2
 simp [callFunc,hf,go_sem,h3,h4]
/-- What a result's cells hold at the end: the block H is the result's own,laid before the call. -/
theorem res_cells {W w1 : World} (H : Nat) (hH : H < W.heap.size) (h : Kept W w1) (c0 : W.cell? ⟨H,0,none⟩ = some (.bool false)) (c1 : W.cell? ⟨H,1,none⟩ = some (.slice none 0 0)) (c2 : W.cell? ⟨H,2,none⟩ = some (.int .i64 0)) (f : ∀ o,W.frozen? ⟨H,o,none⟩ = false) : w1.cell? ⟨H,0,none⟩ = some (.bool false) ∧ w1.cell? ⟨H,1,none⟩ = some (.slice none 0 0) ∧ w1.cell? ⟨H,2,none⟩ = some (.int .i64 0) ∧ (∀ o,w1.frozen? ⟨H,o,none⟩ = false) :=
 ⟨(h.below.cell (p:=⟨H,0,none⟩) hH).trans c0,(h.below.cell (p:=⟨H,1,none⟩) hH).trans c1,(h.below.cell (p:=⟨H,2,none⟩) hH).trans c2,fun o => (h.frozen _).trans (f o)⟩
theorem res_done {w W u2 : World} {v : Value} {r : Nm} (H : Nat) (hw : w.heap.size ≤ H) (hH : H < W.heap.size) (h0 : Kept w W) (hN : New W u2 v r) (hk : Kept W u2) (a b c : Value) : New w (((u2.setCell ⟨H,0,none⟩ a).setCell ⟨H,1,none⟩ b).setCell ⟨H,2,none⟩ c) v r ∧ Kept w (((u2.setCell ⟨H,0,none⟩ a).setCell ⟨H,1,none⟩ b).setCell ⟨H,2,none⟩ c):=by
 constructor
 ·rcases hN with h | ⟨g,cap,e,hg,ho,hne⟩
  ·exact .inl h
  ·exact .inr ⟨g,cap,e,by omega,((ho.setOther (by simp; omega) _).setOther (by simp; omega) _).setOther (by simp; omega) _,hne⟩
 ·exact (h0.trans hk).setCell (by simpa using hw) _ |>.setCell (by simpa using hw) _ |>.setCell (by simpa using hw) _
abbrev nilNum : Obj:=.cells #[.bool false,.slice none 0 0,.int .i64 0] 78
end Go.Proofs.YtelbefihigkhjaaGreatDoor
namespace Go.Proofs.YtelbefihigkhjaaGreatDoor
open Go.ChangeShapes Go.WideShapes Go.ChangeAt Go.RowKit
set_option maxHeartbeats 16000000
set_option maxRecDepth 100000
set_option linter.unusedVariables false
set_option linter.unusedSimpArgs false
theorem and_one (d : Int) : bits .and .i64 d 1 = d % 2:=by
 have e : (BitVec.ofInt 64 1 : BitVec 64).toNat = 2 ^ 1 - 1:=by decide
 have h:=ofInt_toNat d
 rw [bits_and,BitVec.toNat_and,e,Nat.and_two_pow_sub_one_eq_mod,wrap_i64]
 omega
/-- What a valid number that is not 0 says of itself. -/
theorem vld_some (neg : Bool) (L : List Int) (x : Int) (hne : L ≠ []) (h : vld ⟨neg,L,x⟩ = true) : L.length ≤ 2000 ∧ Dg L ∧ L.getD (L.length - 1) 0 ≠ 0 ∧ L.getD 0 0 % 2 = 1 ∧ -1048576 ≤ x ∧ x ≤ 1048576:=by
 unfold vld vldN at h
 simp only [hne,if_false,Bool.and_eq_true,decide_eq_true_eq,bne_iff_ne,beq_iff_eq,and_one] at h
 obtain ⟨⟨⟨⟨⟨h1,h2⟩,h3⟩,h4⟩,h5⟩,h6⟩:=h
 exact ⟨by omega,(dgb_iff L).1 h2,h3,h4,h5,h6⟩
theorem vld_nil (neg : Bool) (x : Int) (h : vld ⟨neg,[],x⟩ = true) : neg = false ∧ x = 0:=by
 simpa [vld] using h
theorem vld_dg (neg : Bool) (L : List Int) (x : Int) (h : vld ⟨neg,L,x⟩ = true) : L.length ≤ 2000 ∧ Dg L:=by
 by_cases hne : L = []
 ·subst hne; exact ⟨by simp,Dg.nil⟩
 ·have:=vld_some neg L x hne h
  exact ⟨this.1,this.2.1⟩
theorem nv_odd (L : List Int) (hL : Dg L) (h : L.getD 0 0 % 2 = 1) : nv L % 2 = 1:=by
 have h1:=nv_getD L hL 0
 have h2:=hL.getD 0
 rw [Nat.mul_zero,Nat.pow_zero,Nat.div_one] at h1
 omega
theorem frm_odd (neg b : Bool) (L : List Int) (x y : Int) (hne : L ≠ []) (h : vld ⟨neg,L,x⟩ = true) : frm b (nv L) y = if -1048576 ≤ wrap64 y ∧ wrap64 y ≤ 1048576 then some ⟨b,L,wrap64 y⟩ else none:=by
 obtain ⟨h1,h2,h3,h4,h5,h6⟩:=vld_some neg L x hne h
 have ho:=nv_odd L h2 h4
 have hz:=tzn_odd _ ho
 have hb:=bl_le _ _ (nv_lt L h2)
 have hd:=digs_nv L h2 (.inr h3)
 unfold frm
 rw [if_neg (by omega),hz]
 simp only [Nat.pow_zero,Nat.div_one,hd,Int.natCast_zero,Int.add_zero,Nat.sub_zero]
 by_cases hy : -1048576 ≤ wrap64 y ∧ wrap64 y ≤ 1048576
 ·rw [if_pos hy,if_pos ⟨by omega,hy⟩]
 ·rw [if_neg hy,if_neg (fun hh => hy hh.2)]
abbrev negW (w : World) (v : Array Value) : World:=((w.alloc (.cells v 78)).alloc nilNum).alloc (.cells v 78)
theorem negW_kept (w : World) (v : Array Value) : Kept w (negW w v):=(((Kept.refl w).alloc _ _).alloc _ _).alloc _ _
abbrev scaleW (w : World) (v : Array Value) (k : Int) : World:=(((w.alloc (.cells v 78)).alloc (.cells #[.int .i64 k] 3)).alloc nilNum).alloc (.cells v 78)
theorem scaleW_kept (w : World) (v : Array Value) (k : Int) : Kept w (scaleW w v k):=((((Kept.refl w).alloc _ _).alloc _ _).alloc _ _).alloc _ _
/-- All that is handed in is looked at: one number,behind the call's own blocks. -/
theorem allValid_at {W : World} (b : Nat) (hb : b < W.heap.size) (neg : Bool) (L : List Int) (hR : Rg L) (hlen : L.length < 100000000) (ao : Option Addr) (cap : Nat) (x : Int) (h : Sl W (.slice ao L.length cap) L) (c0 : W.cell? ⟨b,0,none⟩ = some (.bool neg)) (c1 : W.cell? ⟨b,1,none⟩ = some (.slice ao L.length cap)) (c2 : W.cell? ⟨b,2,none⟩ = some (.int .i64 x)) (g : Bool) (hg : vld ⟨neg,L,x⟩ = g) :
  Hid (∀ w',Kept W w' → Calls Tryz.prog 282 #[.slice (some ⟨b,0,none⟩) 1 1] w' fun e w'' => e = .returned (.bool g) ∧ Kept w' w''):=fun w' k => by
 subst hg
 refine allValid_1 w' b 1 neg ao L.length cap x _ (Nat.lt_of_lt_of_le hb k.below.size) ((k.below.cell (p:=⟨b,0,none⟩) hb).trans c0) ((k.below.cell (p:=⟨b,1,none⟩) hb).trans c1) ((k.below.cell (p:=⟨b,2,none⟩) hb).trans c2) (fun u ku => ?_)
 exact xvalid_any ⟨neg,L,x⟩ hR hlen _ u ⟨_,rfl,(h.kept k).kept ku⟩
theorem scale_ok (neg : Bool) (L : List Int) (hR : Rg L) (hlen : L.length < 60000000) (ao : Option Addr) (cap : Nat) (hcap : ao = none → cap = 0) (x : Int) (k0 y : Int) (hy : IntKind.i64.wrap (x + k0) = y) (hy2 : wrap64 (x + k0) = y) (hv : vld ⟨neg,L,x⟩ = true) (r : Nm) (hf : frm (neg) (nv L) y = some r) (w : World) (h : Sl w (.slice ao L.length cap) L) (hT : Tab w) : Calls Tryz.prog 252 #[.agg #[.bool neg,.slice ao L.length cap,.int .i64 x],.int .i64 k0] w fun e w' => ∃ v,e = .returned (.tuple #[v,.int .i64 0]) ∧ New w w' v r ∧ Kept w w':=by
 have hW : Kept w (scaleW w #[.bool neg,.slice ao L.length cap,.int .i64 x] k0):=by first | exact negW_kept _ _ | exact scaleW_kept _ _ _
 have KV:=allValid_at (W:=scaleW w #[.bool neg,.slice ao L.length cap,.int .i64 x] k0) (w.heap.size + 3) (by simp) neg L hR (by omega) ao cap x (h.kept hW) (by simp [go_sem]) (by simp [go_sem]) (by simp [go_sem]) _ hv
 have KT : Hid (Calls Tryz.prog 248 #[.func (.func 300) #[] #[.pointer (some ⟨w.heap.size,0,none⟩),.pointer (some ⟨w.heap.size + 1,0,none⟩)],.slice (some ⟨w.heap.size + 3,0,none⟩) 1 1] (scaleW w #[.bool neg,.slice ao L.length cap,.int .i64 x] k0) fun e w' => ∃ v,e = .returned (.tuple #[v,.int .i64 0]) ∧ New (scaleW w #[.bool neg,.slice ao L.length cap,.int .i64 x] k0) w' v r ∧ Kept (scaleW w #[.bool neg,.slice ao L.length cap,.int .i64 x] k0) w'):=by
  refine told_ok 300 _ (fun w => call_of Tryz.func300 (by kernel_rfl) (by kernel_rfl) _ w) _ r _ KV (fun u k => ?_)
  have hs:=k.below.size
  simp only [negW,scaleW,World.size_alloc] at hs
  have hd:=vld_dg _ _ _ hv
  exact scale_in_ok neg x k0 y hy hy2 L hd.2 hlen ao cap hcap r hf _ _ u (by omega) (by omega) ((h.kept hW).kept k) ((hT.kept hW).kept k) ((k.below.cell (p:=⟨w.heap.size,0,none⟩) (by simp <;> omega)).trans (by simp [go_sem])) ((k.below.cell (p:=⟨w.heap.size,1,none⟩) (by simp <;> omega)).trans (by simp [go_sem])) ((k.below.cell (p:=⟨w.heap.size,2,none⟩) (by simp <;> omega)).trans (by simp [go_sem])) ((k.below.cell (p:=⟨w.heap.size + 1,0,none⟩) (by simp <;> omega)).trans (by simp [go_sem]))
 have hmf : ∀ (fn : Fn) (first cap : Array Value) (w : World),(Instr.makeFunc fn first cap).run Tryz.prog w = .ok (.func fn first cap) w:=fun _ _ _ _ => rfl
 clear h hT hv hR hlen KV hf
 generalize L.length = n at *
 go_enter Tryz.func252,Tryz.ntmps252
 go_wp2_with (first | (go_at_call 248; refine KT.out.mono ?_; rintro e w1 ⟨v,rfl,hN,hk1⟩; obtain ⟨vn,va,vl,vc,vx,rfl⟩:=hN.shape; obtain ⟨f0,f1,f2,f3⟩:=res_cells (w.heap.size + 2) (by simp <;> omega) hk1 (by simp [go_sem]) (by simp [go_sem]) (by simp [go_sem]) (fun o => by simp [go_sem])))
 have:=res_done (w.heap.size + 2) (by omega) (by simp <;> omega) hW hN hk1 (.bool vn) (.slice va vl vc) (.int .i64 vx)
 refine bodyPost_ret (v:=.tuple #[.agg #[.bool vn,.slice va vl vc,.int .i64 vx],.int .i64 0]) (by simp [results,Tryz.results252,go_sem,f0,f1,f2]) rfl ⟨_,rfl,this.1,this.2⟩
end Go.Proofs.YtelbefihigkhjaaGreatDoor

namespace Go.Proofs.YtelbefihigkhjaaGreatDoor
open Go.ChangeShapes Go.WideShapes Go.ChangeAt Go.RowKit
set_option maxHeartbeats 16000000
set_option maxRecDepth 100000
set_option linter.unusedVariables false
set_option linter.unusedSimpArgs false
end Go.Proofs.YtelbefihigkhjaaGreatDoor
