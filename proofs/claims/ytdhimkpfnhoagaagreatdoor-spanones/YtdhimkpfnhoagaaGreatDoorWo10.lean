/- The walks of exact's split and of the three ways. The walks of the closures that clone and form: Make's,Neg's,Scale's. The walks of exact's Make,Neg,Scale,Sign,Int. The walks of exact's Neg,Scale,Sign,Int. The walk of exact's leading; the leading bits of a number. -/
import Derived.Test.YtdhimkpfnhoagaaGreatDoorWo09
import Derived.Test.YtdhimkpfnhoagaaGreatDoorWo07
namespace Go.Proofs.YtdhimkpfnhoagaaGreatDoor
open Go.ChangeShapes Go.WideShapes Go.ChangeAt Go.RowKit
set_option linter.unusedVariables false
set_option linter.unusedSimpArgs false
set_option maxHeartbeats 16000000
set_option maxRecDepth 100000
theorem split_false (ng : Bool) (h ex kept P Q1 : Int) (m : Nat) (hm : m < 62) (od hf rt : Bool) (hk : h / 2 ^ (m + 1) = kept) (hP : wrap64 (2 ^ m) = P) (hQ : IntKind.i64.wrap (P - 1) = Q1) (c1 c2 c3 : Int) (hc1 : bits .and .i64 kept 1 = c1) (hc2 : bits .and .i64 h P = c2) (hc3 : bits .and .i64 h Q1 = c3) (hod : (c1 == 1) = od) (hhf : (c2 != 0) = hf) (hrt : (c3 != 0) = rt) (w : World) : Calls Tryz.prog 128 #[.agg #[.bool ng,.int .i64 h,.int .i64 ex,.bool false],.int .i64 ((m : Int) + 1)] w fun e w' => e = .returned (.tuple #[.int .i64 kept,.agg #[.bool ng,.bool od,.bool hf,.bool rt]]) ∧ Kept w w':=by
 have hK : Kept w ((w.alloc (.cells #[.bool ng,.int .i64 h,.int .i64 ex,.bool false] 116)).alloc (.cells #[.bool false,.bool false,.bool false,.bool false] 164)):=((Kept.refl w).alloc _ _).alloc _ _
 go_enter Tryz.func128,Tryz.ntmps128
 go_wp2
 go_quiet (fail)
 go_wp2
 obtain ⟨W0,hW0⟩ : ∃ W0,((w.alloc (.cells #[.bool ng,.int .i64 h,.int .i64 ex,.bool false] 116)).alloc (.cells #[.bool false,.bool false,.bool false,.bool false] 164)).drewN nq = W0:=⟨_,rfl⟩
 have q0 : W0.cell? ⟨w.heap.size,0,none⟩ = some (.bool ng):=by rw [← hW0]; simp [go_sem]
 have q1 : W0.cell? ⟨w.heap.size,1,none⟩ = some (.int .i64 h):=by rw [← hW0]; simp [go_sem]
 have q3 : W0.cell? ⟨w.heap.size,3,none⟩ = some (.bool false):=by rw [← hW0]; simp [go_sem]
 have s0 : W0.cell? ⟨w.heap.size + 1,0,none⟩ = some (.bool false):=by rw [← hW0]; simp [go_sem]
 have s1 : W0.cell? ⟨w.heap.size + 1,1,none⟩ = some (.bool false):=by rw [← hW0]; simp [go_sem]
 have s2 : W0.cell? ⟨w.heap.size + 1,2,none⟩ = some (.bool false):=by rw [← hW0]; simp [go_sem]
 have s3 : W0.cell? ⟨w.heap.size + 1,3,none⟩ = some (.bool false):=by rw [← hW0]; simp [go_sem]
 have sf : ∀ o,W0.frozen? ⟨w.heap.size + 1,o,none⟩ = false:=fun o => by rw [← hW0]; simp [go_sem]
 have hK0 : Kept w W0:=by rw [← hW0]; exact hK.drewN nq
 rw [hW0]
 clear hW0 hK
 refine wp_region_held_drew (S:=fun u => u.cell? ⟨w.heap.size,0,none⟩ = some (.bool ng) ∧ u.cell? ⟨w.heap.size,1,none⟩ = some (.int .i64 h) ∧ u.cell? ⟨w.heap.size,3,none⟩ = some (.bool false)) (by kernel_rfl) ⟨q0,q1,q3⟩ (fun hHeld => ?_)
 refine tk (i:=0) (v:=?_) rfl ?_
 try simp only [Act.put,zA,zB,zC,zD,zE,zF]
 refine tk (i:=1) (v:=?_) rfl ?_
 try simp only [Act.put,zA,zB,zC,zD,zE,zF]
 refine tk (i:=2) (v:=?_) rfl ?_
 try simp only [Act.put,zA,zB,zC,zD,zE,zF]
 refine tk (i:=3) (v:=?_) rfl ?_
 try simp only [Act.put,zA,zB,zC,zD,zE,zF]
 refine tk (i:=4) (v:=?_) rfl ?_
 try simp only [Act.put,zA,zB,zC,zD,zE,zF]
 refine tk (i:=5) (v:=?_) rfl ?_
 try simp only [Act.put,zA,zB,zC,zD,zE,zF]
 refine tk (i:=6) (v:=?_) rfl ?_
 try simp only [Act.put,zA,zB,zC,zD,zE,zF]
 refine tk (i:=7) (v:=?_) rfl ?_
 try simp only [Act.put,zA,zB,zC,zD,zE,zF]
 refine tk (i:=8) (v:=?_) rfl ?_
 try simp only [Act.put,zA,zB,zC,zD,zE,zF]
 refine tk (i:=9) (v:=?_) rfl ?_
 try simp only [Act.put,zA,zB,zC,zD,zE,zF]
 refine tk (i:=10) (v:=?_) rfl ?_
 try simp only [Act.put,zA,zB,zC,zD,zE,zF]
 refine tk (i:=11) (v:=?_) rfl ?_
 try simp only [Act.put,zA,zB,zC,zD,zE,zF]
 refine tk (i:=12) (v:=?_) rfl ?_
 try simp only [Act.put,zA,zB,zC,zD,zE,zF]
 refine tk (i:=13) (v:=?_) rfl ?_
 try simp only [Act.put,zA,zB,zC,zD,zE,zF]
 refine tk (i:=14) (v:=?_) rfl ?_
 try simp only [Act.put,zA,zB,zC,zD,zE,zF]
 refine tk (i:=15) (v:=?_) rfl ?_
 try simp only [Act.put,zA,zB,zC,zD,zE,zF]
 refine tk (i:=16) (v:=?_) rfl ?_
 try simp only [Act.put,zA,zB,zC,zD,zE,zF]
 refine tk (i:=17) (v:=?_) rfl ?_
 try simp only [Act.put,zA,zB,zC,zD,zE,zF]
 refine tk (i:=18) (v:=?_) rfl ?_
 try simp only [Act.put,zA,zB,zC,zD,zE,zF]
 refine tk (i:=19) (v:=?_) rfl ?_
 try simp only [Act.put,zA,zB,zC,zD,zE,zF]
 refine tk (i:=20) (v:=?_) rfl ?_
 try simp only [Act.put,zA,zB,zC,zD,zE,zF]
 refine tk (i:=21) (v:=?_) rfl ?_
 try simp only [Act.put,zA,zB,zC,zD,zE,zF]
 refine tk (i:=22) (v:=?_) rfl ?_
 try simp only [Act.put,zA,zB,zC,zD,zE,zF]
 refine wpAnyH_ready (rs:=[23]) (by kernel_rfl) (by simp) ?_
 refine AllReadyH.cons rfl (fun K hK9 => ?_) AllReadyH.nil
 go_simp
 refine hK9.out _ _ ⟨(set4 _ _ _ _ (by omega) _ _ _ _).trans q0,(set4 _ _ _ _ (by omega) _ _ _ _).trans q1,(set4 _ _ _ _ (by omega) _ _ _ _).trans q3⟩ (fun hHeld3 => ?_)
 clear hK9 K hHeld
 refine wpAnyH_done (by kernel_rfl) ?_ _
 clear hHeld3
 go_wp2
 refine bodyPost_ret (v:=.tuple #[.int .i64 kept,.agg #[.bool ng,.bool od,.bool hf,.bool rt]]) (by simp [results,Tryz.results128,go_sem,s0,s1,s2,s3]) rfl ⟨rfl,?_⟩
 first
 | exact (hK0.drew.setCell (by simp) _ |>.setCell (by simp) _ |>.setCell (by simp) _ |>.setCell (by simp) _)
 | exact (hK0.setCell (by simp) _ |>.setCell (by simp) _ |>.setCell (by simp) _ |>.setCell (by simp) _).drew
theorem split_true (ng : Bool) (h ex kept P Q1 : Int) (m : Nat) (hm : m < 62) (od hf rt : Bool) (hk : h / 2 ^ (m + 1) = kept) (hP : wrap64 (2 ^ m) = P) (hQ : IntKind.i64.wrap (P - 1) = Q1) (c1 c2 c3 : Int) (hc1 : bits .and .i64 kept 1 = c1) (hc2 : bits .and .i64 h P = c2) (hc3 : bits .and .i64 h Q1 = c3) (hod : (c1 == 1) = od) (hhf : (c2 != 0) = hf) (hrt : rt = true) (w : World) : Calls Tryz.prog 128 #[.agg #[.bool ng,.int .i64 h,.int .i64 ex,.bool true],.int .i64 ((m : Int) + 1)] w fun e w' => e = .returned (.tuple #[.int .i64 kept,.agg #[.bool ng,.bool od,.bool hf,.bool rt]]) ∧ Kept w w':=by
 have hK : Kept w ((w.alloc (.cells #[.bool ng,.int .i64 h,.int .i64 ex,.bool true] 116)).alloc (.cells #[.bool false,.bool false,.bool false,.bool false] 164)):=((Kept.refl w).alloc _ _).alloc _ _
 subst hrt
 go_enter Tryz.func128,Tryz.ntmps128
 go_wp2
 go_quiet (fail)
 go_wp2
 obtain ⟨W0,hW0⟩ : ∃ W0,((w.alloc (.cells #[.bool ng,.int .i64 h,.int .i64 ex,.bool true] 116)).alloc (.cells #[.bool false,.bool false,.bool false,.bool false] 164)).drewN nq = W0:=⟨_,rfl⟩
 have q0 : W0.cell? ⟨w.heap.size,0,none⟩ = some (.bool ng):=by rw [← hW0]; simp [go_sem]
 have q1 : W0.cell? ⟨w.heap.size,1,none⟩ = some (.int .i64 h):=by rw [← hW0]; simp [go_sem]
 have q3 : W0.cell? ⟨w.heap.size,3,none⟩ = some (.bool true):=by rw [← hW0]; simp [go_sem]
 have s0 : W0.cell? ⟨w.heap.size + 1,0,none⟩ = some (.bool false):=by rw [← hW0]; simp [go_sem]
 have s1 : W0.cell? ⟨w.heap.size + 1,1,none⟩ = some (.bool false):=by rw [← hW0]; simp [go_sem]
 have s2 : W0.cell? ⟨w.heap.size + 1,2,none⟩ = some (.bool false):=by rw [← hW0]; simp [go_sem]
 have s3 : W0.cell? ⟨w.heap.size + 1,3,none⟩ = some (.bool false):=by rw [← hW0]; simp [go_sem]
 have sf : ∀ o,W0.frozen? ⟨w.heap.size + 1,o,none⟩ = false:=fun o => by rw [← hW0]; simp [go_sem]
 have hK0 : Kept w W0:=by rw [← hW0]; exact hK.drewN nq
 rw [hW0]
 clear hW0 hK
 refine wp_region_held_drew (S:=fun u => u.cell? ⟨w.heap.size,0,none⟩ = some (.bool ng) ∧ u.cell? ⟨w.heap.size,1,none⟩ = some (.int .i64 h) ∧ u.cell? ⟨w.heap.size,3,none⟩ = some (.bool true)) (by kernel_rfl) ⟨q0,q1,q3⟩ (fun hHeld => ?_)
 refine tk (i:=0) (v:=?_) rfl ?_
 try simp only [Act.put,zA,zB,zC,zD,zE,zF]
 refine tk (i:=1) (v:=?_) rfl ?_
 try simp only [Act.put,zA,zB,zC,zD,zE,zF]
 refine tk (i:=2) (v:=?_) rfl ?_
 try simp only [Act.put,zA,zB,zC,zD,zE,zF]
 refine tk (i:=3) (v:=?_) rfl ?_
 try simp only [Act.put,zA,zB,zC,zD,zE,zF]
 refine tk (i:=4) (v:=?_) rfl ?_
 try simp only [Act.put,zA,zB,zC,zD,zE,zF]
 refine tk (i:=5) (v:=?_) rfl ?_
 try simp only [Act.put,zA,zB,zC,zD,zE,zF]
 refine tk (i:=6) (v:=?_) rfl ?_
 try simp only [Act.put,zA,zB,zC,zD,zE,zF]
 refine tk (i:=7) (v:=?_) rfl ?_
 try simp only [Act.put,zA,zB,zC,zD,zE,zF]
 refine tk (i:=8) (v:=?_) rfl ?_
 try simp only [Act.put,zA,zB,zC,zD,zE,zF]
 refine tk (i:=9) (v:=?_) rfl ?_
 try simp only [Act.put,zA,zB,zC,zD,zE,zF]
 refine tk (i:=10) (v:=?_) rfl ?_
 try simp only [Act.put,zA,zB,zC,zD,zE,zF]
 refine tk (i:=11) (v:=?_) rfl ?_
 try simp only [Act.put,zA,zB,zC,zD,zE,zF]
 refine tk (i:=12) (v:=?_) rfl ?_
 try simp only [Act.put,zA,zB,zC,zD,zE,zF]
 refine tk (i:=13) (v:=?_) rfl ?_
 try simp only [Act.put,zA,zB,zC,zD,zE,zF]
 refine wpAnyH_take (i:=14) (v:=undef) rfl (by kernel_rfl) (by kernel_rfl) (by kernel_rfl) (fun _ _ _ h => h) (Or.inr ⟨by rfl,rfl⟩) (by assumption) ?_
 try simp only [Act.put,zA,zB,zC,zD,zE,zF]
 refine wpAnyH_take (i:=15) (v:=undef) rfl (by kernel_rfl) (by kernel_rfl) (by kernel_rfl) (fun _ _ _ h => h) (Or.inr ⟨by rfl,rfl⟩) (by assumption) ?_
 try simp only [Act.put,zA,zB,zC,zD,zE,zF]
 refine wpAnyH_take (i:=16) (v:=undef) rfl (by kernel_rfl) (by kernel_rfl) (by kernel_rfl) (fun _ _ _ h => h) (Or.inr ⟨by rfl,rfl⟩) (by assumption) ?_
 try simp only [Act.put,zA,zB,zC,zD,zE,zF]
 refine wpAnyH_take (i:=17) (v:=undef) rfl (by kernel_rfl) (by kernel_rfl) (by kernel_rfl) (fun _ _ _ h => h) (Or.inr ⟨by rfl,rfl⟩) (by assumption) ?_
 try simp only [Act.put,zA,zB,zC,zD,zE,zF]
 refine wpAnyH_take (i:=18) (v:=undef) rfl (by kernel_rfl) (by kernel_rfl) (by kernel_rfl) (fun _ _ _ h => h) (Or.inr ⟨by rfl,rfl⟩) (by assumption) ?_
 try simp only [Act.put,zA,zB,zC,zD,zE,zF]
 refine wpAnyH_take (i:=19) (v:=undef) rfl (by kernel_rfl) (by kernel_rfl) (by kernel_rfl) (fun _ _ _ h => h) (Or.inr ⟨by rfl,rfl⟩) (by assumption) ?_
 try simp only [Act.put,zA,zB,zC,zD,zE,zF]
 refine tk (i:=20) (v:=?_) rfl ?_
 try simp only [Act.put,zA,zB,zC,zD,zE,zF]
 refine tk (i:=21) (v:=?_) rfl ?_
 try simp only [Act.put,zA,zB,zC,zD,zE,zF]
 refine tk (i:=22) (v:=?_) rfl ?_
 try simp only [Act.put,zA,zB,zC,zD,zE,zF]
 refine wpAnyH_ready (rs:=[23]) (by kernel_rfl) (by simp) ?_
 refine AllReadyH.cons rfl (fun K hK9 => ?_) AllReadyH.nil
 go_simp
 refine hK9.out _ _ ⟨(set4 _ _ _ _ (by omega) _ _ _ _).trans q0,(set4 _ _ _ _ (by omega) _ _ _ _).trans q1,(set4 _ _ _ _ (by omega) _ _ _ _).trans q3⟩ (fun hHeld3 => ?_)
 clear hK9 K hHeld
 refine wpAnyH_done (by kernel_rfl) ?_ _
 clear hHeld3
 go_wp2
 refine bodyPost_ret (v:=.tuple #[.int .i64 kept,.agg #[.bool ng,.bool od,.bool hf,.bool true]]) (by simp [results,Tryz.results128,go_sem,s0,s1,s2,s3]) rfl ⟨rfl,?_⟩
 first
 | exact (hK0.drew.setCell (by simp) _ |>.setCell (by simp) _ |>.setCell (by simp) _ |>.setCell (by simp) _)
 | exact (hK0.setCell (by simp) _ |>.setCell (by simp) _ |>.setCell (by simp) _ |>.setCell (by simp) _).drew
theorem away_1 (ng od hf rt : Bool) (w : World) : Calls Tryz.prog 163 #[.agg #[.bool ng,.bool od,.bool hf,.bool rt]] w fun e w' => e = .returned (.bool (hf && (rt || od))) ∧ Kept w w':=by
 cases ng <;> cases od <;> cases hf <;> cases rt
 all_goals
  go_enter Tryz.func163,Tryz.ntmps163
  go_wp2
  go_ret
  exact ⟨rfl,(Kept.refl _).alloc _ _⟩
theorem away_2 (ng od hf rt : Bool) (w : World) : Calls Tryz.prog 164 #[.agg #[.bool ng,.bool od,.bool hf,.bool rt]] w fun e w' => e = .returned (.bool (ng && (hf || rt))) ∧ Kept w w':=by
 cases ng <;> cases od <;> cases hf <;> cases rt
 all_goals
  go_enter Tryz.func164,Tryz.ntmps164
  go_wp2
  go_ret
  exact ⟨rfl,(Kept.refl _).alloc _ _⟩
theorem away_3 (ng od hf rt : Bool) (w : World) : Calls Tryz.prog 165 #[.agg #[.bool ng,.bool od,.bool hf,.bool rt]] w fun e w' => e = .returned (.bool (!ng && (hf || rt))) ∧ Kept w w':=by
 cases ng <;> cases od <;> cases hf <;> cases rt
 all_goals
  go_enter Tryz.func165,Tryz.ntmps165
  go_wp2
  go_ret
  exact ⟨rfl,(Kept.refl _).alloc _ _⟩
theorem call_of {P : Program} {f : FuncId} {fn : Func} (hf : P.funcs[f]? = some fn) (h1 : (fn.name == "runtime.NumGoroutine") = false) (h2 : fn.body.isNone = false) (caps : Array Value) (w : World) : (callFunc f caps).run P w = .ok (.enter f caps) w := by
 have h3 : ¬ fn.name = "runtime.NumGoroutine" := by simpa using h1
 have h4 : ¬ fn.body = none:=by intro h; rw [h] at h2; cases h2
 simp [callFunc,hf,go_sem,h3,h4]
/-- What a result's cells hold at the end: the block H is the result's own,laid before the call. -/
theorem res_cells {W w1 : World} (H : Nat) (hH : H < W.heap.size) (h : Kept W w1) (c0 : W.cell? ⟨H,0,none⟩ = some (.bool false)) (c1 : W.cell? ⟨H,1,none⟩ = some (.slice none 0 0)) (c2 : W.cell? ⟨H,2,none⟩ = some (.int .i64 0)) (f : ∀ o,W.frozen? ⟨H,o,none⟩ = false) : w1.cell? ⟨H,0,none⟩ = some (.bool false) ∧ w1.cell? ⟨H,1,none⟩ = some (.slice none 0 0) ∧ w1.cell? ⟨H,2,none⟩ = some (.int .i64 0) ∧ (∀ o,w1.frozen? ⟨H,o,none⟩ = false) :=
 ⟨(h.below.cell (p:=⟨H,0,none⟩) hH).trans c0,(h.below.cell (p:=⟨H,1,none⟩) hH).trans c1,(h.below.cell (p:=⟨H,2,none⟩) hH).trans c2,fun o => (h.frozen _).trans (f o)⟩
theorem res_done {w W u2 : World} {v : Value} {r : Nm} (H : Nat) (hw : w.heap.size ≤ H) (hH : H < W.heap.size) (h0 : Kept w W) (hN : New W u2 v r) (hk : Kept W u2) (a b c : Value) : New w (((u2.setCell ⟨H,0,none⟩ a).setCell ⟨H,1,none⟩ b).setCell ⟨H,2,none⟩ c) v r ∧ Kept w (((u2.setCell ⟨H,0,none⟩ a).setCell ⟨H,1,none⟩ b).setCell ⟨H,2,none⟩ c):=by
 constructor
 ·rcases hN with h | ⟨g,cap,e,hg,ho,hne⟩
  ·exact .inl h
  ·exact .inr ⟨g,cap,e,by omega,((ho.setOther (by simp; omega) _).setOther (by simp; omega) _).setOther (by simp; omega) _,hne⟩
 ·exact (h0.trans hk).setCell (by simpa using hw) _ |>.setCell (by simpa using hw) _ |>.setCell (by simpa using hw) _
theorem res_kept {w W u2 : World} (H : Nat) (hw : w.heap.size ≤ H) (h0 : Kept w W) (hk : Kept W u2) (a b c : Value) : Kept w (((u2.setCell ⟨H,0,none⟩ a).setCell ⟨H,1,none⟩ b).setCell ⟨H,2,none⟩ c) :=
 (h0.trans hk).setCell (by simpa using hw) _ |>.setCell (by simpa using hw) _ |>.setCell (by simpa using hw) _
abbrev nilNum : Obj:=.cells #[.bool false,.slice none 0 0,.int .i64 0] 26
theorem and_one (d : Int) : bits .and .i64 d 1 = d % 2:=by
 have e : (BitVec.ofInt 64 1 : BitVec 64).toNat = 2 ^ 1 - 1:=by decide
 have h:=ofInt_toNat d
 rw [bits_and,BitVec.toNat_and,e,Nat.and_two_pow_sub_one_eq_mod,wrap_i64]
 omega
/-- What a valid number that is not 0 says of itself. -/
theorem vld_some (neg : Bool) (L : List Int) (x : Int) (hne : L ≠ []) (h : vld ⟨neg,L,x⟩ = true) : L.length ≤ 2000 ∧ Dg L ∧ L.getD (L.length - 1) 0 ≠ 0 ∧ L.getD 0 0 % 2 = 1 ∧ -1048576 ≤ x ∧ x ≤ 1048576:=by
 unfold vld vldN at h
 simp only [hne,if_false,Bool.and_eq_true,decide_eq_true_eq,bne_iff_ne,beq_iff_eq,and_one] at h
 obtain ⟨⟨⟨⟨⟨h1,h2⟩,h3⟩,h4⟩,h5⟩,h6⟩:=h
 exact ⟨by omega,(dgb_iff L).1 h2,h3,h4,h5,h6⟩
theorem vld_nil (neg : Bool) (x : Int) (h : vld ⟨neg,[],x⟩ = true) : neg = false ∧ x = 0:=by
 simpa [vld] using h
theorem vld_dg (neg : Bool) (L : List Int) (x : Int) (h : vld ⟨neg,L,x⟩ = true) : L.length ≤ 2000 ∧ Dg L:=by
 by_cases hne : L = []
 ·subst hne; exact ⟨by simp,Dg.nil⟩
 ·have:=vld_some neg L x hne h
  exact ⟨this.1,this.2.1⟩
theorem nv_odd (L : List Int) (hL : Dg L) (h : L.getD 0 0 % 2 = 1) : nv L % 2 = 1:=by
 have h1:=nv_getD L hL 0
 have h2:=hL.getD 0
 rw [Nat.mul_zero,Nat.pow_zero,Nat.div_one] at h1
 omega
theorem frm_odd (neg b : Bool) (L : List Int) (x y : Int) (hne : L ≠ []) (h : vld ⟨neg,L,x⟩ = true) : frm b (nv L) y = if -1048576 ≤ wrap64 y ∧ wrap64 y ≤ 1048576 then some ⟨b,L,wrap64 y⟩ else none:=by
 obtain ⟨h1,h2,h3,h4,h5,h6⟩:=vld_some neg L x hne h
 have ho:=nv_odd L h2 h4
 have hz:=tzn_odd _ ho
 have hb:=bl_le _ _ (nv_lt L h2)
 have hd:=digs_nv L h2 (.inr h3)
 unfold frm
 rw [if_neg (by omega),hz]
 simp only [Nat.pow_zero,Nat.div_one,hd,Int.natCast_zero,Int.add_zero,Nat.sub_zero]
 by_cases hy : -1048576 ≤ wrap64 y ∧ wrap64 y ≤ 1048576
 ·rw [if_pos hy,if_pos ⟨by omega,hy⟩]
 ·rw [if_neg hy,if_neg (fun hh => hy hh.2)]
/-- All that is handed in is looked at: one number,behind the call's own blocks. -/
theorem allValid_at {W : World} (b : Nat) (hb : b < W.heap.size) (neg : Bool) (L : List Int) (hR : Rg L) (hlen : L.length < 100000000) (ao : Option Addr) (cap : Nat) (x : Int) (h : Sl W (.slice ao L.length cap) L) (c0 : W.cell? ⟨b,0,none⟩ = some (.bool neg)) (c1 : W.cell? ⟨b,1,none⟩ = some (.slice ao L.length cap)) (c2 : W.cell? ⟨b,2,none⟩ = some (.int .i64 x)) (g : Bool) (hg : vld ⟨neg,L,x⟩ = g) :
  Hid (∀ w',Kept W w' → Calls Tryz.prog 108 #[.slice (some ⟨b,0,none⟩) 1 1] w' fun e w'' => e = .returned (.bool g) ∧ Kept w' w''):=fun w' k => by
 subst hg
 refine allValid_1 w' b 1 neg ao L.length cap x _ (Nat.lt_of_lt_of_le hb k.below.size) ((k.below.cell (p:=⟨b,0,none⟩) hb).trans c0) ((k.below.cell (p:=⟨b,1,none⟩) hb).trans c1) ((k.below.cell (p:=⟨b,2,none⟩) hb).trans c2) (fun u ku => ?_)
 exact xvalid_any ⟨neg,L,x⟩ hR hlen _ u ⟨_,rfl,(h.kept k).kept ku⟩
def hd (v : Nat) : Nat:=v * 2 ^ 60 / 2 ^ bl v
theorem hd_bounds (v : Nat) (hv : v ≠ 0) : 2 ^ 59 ≤ hd v ∧ hd v < 2 ^ 60:=by
 obtain ⟨h1,h2,h3⟩:=bl_pos v hv
 unfold hd
 obtain ⟨k,hk⟩ : ∃ k,bl v = k + 1:=⟨bl v - 1,by omega⟩
 rw [hk,Nat.add_sub_cancel] at h1
 rw [hk] at h2 ⊢
 have hp:=Nat.two_pow_pos k
 constructor
 ·rw [Nat.le_div_iff_mul_le (Nat.two_pow_pos _)]
  have : 2 ^ 59 * 2 ^ (k + 1) = 2 ^ k * 2 ^ 60:=by rw [← Nat.pow_add,← Nat.pow_add]; congr 1; omega
  rw [this]
  exact Nat.mul_le_mul_right _ h1
 ·rw [Nat.div_lt_iff_lt_mul (Nat.two_pow_pos _),Nat.mul_comm (2 ^ 60)]
  exact Nat.mul_lt_mul_of_pos_right h2 (Nat.two_pow_pos _)
theorem pcz_shift (v : Nat) (p : Int) (hp : -60 ≤ p) : pcz v p = ((v * 2 ^ 60 / 2 ^ (60 + p).toNat % 1073741824 : Nat) : Int):=by
 unfold pcz
 split
 ·obtain ⟨q,rfl⟩ : ∃ q : Nat,p = q:=⟨p.toNat,by omega⟩
  rw [Int.toNat_natCast,show (60 + (q : Int)).toNat = q + 60 by omega,Nat.pow_add,Nat.mul_div_mul_right _ _ (Nat.two_pow_pos _)]
 ·obtain ⟨q,hq⟩ : ∃ q : Nat,(60 + p).toNat = q:=⟨_,rfl⟩
  obtain ⟨j,hj⟩ : ∃ j : Nat,(-p).toNat = j:=⟨_,rfl⟩
  rw [hq,hj]
  have : (2 : Nat) ^ 60 = 2 ^ j * 2 ^ q:=by rw [← Nat.pow_add]; congr 1; omega
  rw [this,← Nat.mul_assoc,Nat.mul_div_cancel _ (Nat.two_pow_pos _)]
theorem pcz_low (v : Nat) (hv : v ≠ 0) : pcz v ((bl v : Int) - 60) = ((hd v % 1073741824 : Nat) : Int):=by
 have:=(bl_pos v hv).2.2
 rw [pcz_shift v _ (by omega),show (60 + ((bl v : Int) - 60)).toNat = bl v by omega]
 rfl
theorem pcz_high (v : Nat) (hv : v ≠ 0) : pcz v ((bl v : Int) - 60 + 30) = ((hd v / 1073741824 : Nat) : Int):=by
 have:=(bl_pos v hv).2.2
 rw [pcz_shift v _ (by omega),show (60 + ((bl v : Int) - 60 + 30)).toNat = bl v + 30 by omega,Nat.pow_add,← Nat.div_div_eq_div_mul]
 have hb:=(hd_bounds v hv).2
 unfold hd at hb ⊢
 rw [Nat.mod_eq_of_lt]
 rw [Nat.div_lt_iff_lt_mul (by decide)]
 exact hb
theorem or_swap (a b : Int) : bits .or .i64 a b = bits .or .i64 b a:=by
 unfold bits
 simp [BitVec.or_comm]
theorem head_or (v : Nat) (hv : v ≠ 0) : bits .or .i64 (((hd v / 1073741824 : Nat) : Int) * 1073741824) ((hd v % 1073741824 : Nat) : Int) = ((hd v : Nat) : Int):=by
 have hb:=(hd_bounds v hv).2
 rw [or_swap,show (((hd v / 1073741824 : Nat) : Int) * 1073741824) = ((hd v / 1073741824 * 2 ^ 30 : Nat) : Int) by rw [show (2 : Nat) ^ 30 = 1073741824 by rfl]; omega,or_sum (hd v % 1073741824) (hd v / 1073741824) 30 (Nat.mod_lt _ (by decide)) (by rw [show (2 : Nat) ^ 30 = 1073741824 by rfl]; omega)]
 congr 1
 rw [show (2 : Nat) ^ 30 = 1073741824 by rfl]
 omega
theorem leading_gen (ng : Bool) (ao : Option Addr) (n c : Nat) (hn : 0 < n) (x : Int) (hx1 : -1048576 ≤ x) (hx2 : x ≤ 1048576) (B : Nat) (hB : B ≤ 60000) (p1 p0 q1 h : Int) (rs : Bool) (hq : IntKind.i64.wrap (p1 * 1073741824) = q1) (hor : bits .or .i64 q1 p0 = h) (hrs : decide (60 < (B : Int)) = rs) (w : World)
  (KL : Hid (∀ u,Kept w u → Calls Tryz.prog 114 #[.slice ao n c] u fun e w' => e = .returned (.int .i64 (B : Int)) ∧ u = w'))
  (K1 : Hid (∀ u,Kept w u → Calls Tryz.prog 116 #[.slice ao n c,.int .i64 ((B : Int) - 60 + 30)] u fun e w' => e = .returned (.int .i64 p1) ∧ Kept u w'))
  (K0 : Hid (∀ u,Kept w u → Calls Tryz.prog 116 #[.slice ao n c,.int .i64 ((B : Int) - 60)] u fun e w' => e = .returned (.int .i64 p0) ∧ Kept u w')) :
  Calls Tryz.prog 162 #[.agg #[.bool ng,.slice ao n c,.int .i64 x]] w fun e w' => e = .returned (.agg #[.bool ng,.int .i64 h,.int .i64 (x + ((B : Int) - 60)),.bool rs]) ∧ Kept w w':=by
 have hK : Kept w ((w.alloc (.cells #[.bool ng,.slice ao n c,.int .i64 x] 26)).alloc (.cells #[.bool false,.int .i64 0,.int .i64 0,.bool false] 116)):=((Kept.refl w).alloc _ _).alloc _ _
 have HS : Hid (∀ u,Kept ((w.alloc (.cells #[.bool ng,.slice ao n c,.int .i64 x] 26)).alloc (.cells #[.bool false,.int .i64 0,.int .i64 0,.bool false] 116)) u → (u.cell? ⟨w.heap.size,0,none⟩ = some (.bool ng) ∧ u.cell? ⟨w.heap.size,1,none⟩ = some (.slice ao n c) ∧ u.cell? ⟨w.heap.size,2,none⟩ = some (.int .i64 x)) ∧ u.cell? ⟨w.heap.size + 1,0,none⟩ = some (.bool false) ∧ u.cell? ⟨w.heap.size + 1,1,none⟩ = some (.int .i64 0) ∧ u.cell? ⟨w.heap.size + 1,2,none⟩ = some (.int .i64 0) ∧ u.cell? ⟨w.heap.size + 1,3,none⟩ = some (.bool false) ∧ ∀ o,u.frozen? ⟨w.heap.size + 1,o,none⟩ = false):=fun u k => ⟨⟨(k.below.cell (p:=⟨w.heap.size,0,none⟩) (by simp; omega)).trans (by simp [go_sem]),(k.below.cell (p:=⟨w.heap.size,1,none⟩) (by simp; omega)).trans (by simp [go_sem]),(k.below.cell (p:=⟨w.heap.size,2,none⟩) (by simp; omega)).trans (by simp [go_sem])⟩,(k.below.cell (p:=⟨w.heap.size + 1,0,none⟩) (by simp)).trans (by simp [go_sem]),(k.below.cell (p:=⟨w.heap.size + 1,1,none⟩) (by simp)).trans (by simp [go_sem]),(k.below.cell (p:=⟨w.heap.size + 1,2,none⟩) (by simp)).trans (by simp [go_sem]),(k.below.cell (p:=⟨w.heap.size + 1,3,none⟩) (by simp)).trans (by simp [go_sem]),fun o => (k.frozen _).trans (by simp [go_sem])⟩
 have kD : Kept ((w.alloc (.cells #[.bool ng,.slice ao n c,.int .i64 x] 26)).alloc (.cells #[.bool false,.int .i64 0,.int .i64 0,.bool false] 116)) (((w.alloc (.cells #[.bool ng,.slice ao n c,.int .i64 x] 26)).alloc (.cells #[.bool false,.int .i64 0,.int .i64 0,.bool false] 116))).drew:=(Kept.refl _).drew
 have z1 : IntKind.i64.wrap ((B : Int) - 60) = (B : Int) - 60:=by rw [wrap_i64]; omega
 have z2 : IntKind.i64.wrap ((B : Int) - 60 + 30) = (B : Int) - 60 + 30:=by rw [wrap_i64]; omega
 have z3 : IntKind.i64.wrap (x + ((B : Int) - 60)) = x + ((B : Int) - 60):=by rw [wrap_i64]; omega
 have hn0 : ((n : Int) == 0) = false:=by simp; omega
 go_enter Tryz.func162,Tryz.ntmps162
 go_wp2_with (first | (go_at_call 114; refine (KL.out _ hK).mono ?_; rintro e w1 ⟨rfl,rfl⟩))
 have e00:=(HS.out _ kD).1
 refine wp_region_held_drew (S:=fun u => u.cell? ⟨w.heap.size,0,none⟩ = some (.bool ng) ∧ u.cell? ⟨w.heap.size,1,none⟩ = some (.slice ao n c) ∧ u.cell? ⟨w.heap.size,2,none⟩ = some (.int .i64 x)) (by kernel_rfl) e00 (fun hHeld => ?_)
 refine tk (i:=0) (v:=?_) rfl ?_
 try simp only [Act.put,zA,zB,zC,zD,zE,zF]
 refine tk (i:=1) (v:=?_) rfl ?_
 try simp only [Act.put,zA,zB,zC,zD,zE,zF]
 refine tk (i:=2) (v:=?_) rfl ?_
 try simp only [Act.put,zA,zB,zC,zD,zE,zF]
 refine tk (i:=3) (v:=?_) rfl ?_
 try simp only [Act.put,zA,zB,zC,zD,zE,zF]
 refine tk (i:=4) (v:=?_) rfl ?_
 try simp only [Act.put,zA,zB,zC,zD,zE,zF]
 refine tk (i:=5) (v:=?_) rfl ?_
 try simp only [Act.put,zA,zB,zC,zD,zE,zF]
 refine tk (i:=8) (v:=?_) rfl ?_
 try simp only [Act.put,zA,zB,zC,zD,zE,zF]
 refine tk (i:=9) (v:=?_) rfl ?_
 try simp only [Act.put,zA,zB,zC,zD,zE,zF]
 refine tk (i:=10) (v:=?_) rfl ?_
 try simp only [Act.put,zA,zB,zC,zD,zE,zF]
 refine tk (i:=13) (v:=?_) rfl ?_
 try simp only [Act.put,zA,zB,zC,zD,zE,zF]
 refine tk (i:=14) (v:=?_) rfl ?_
 try simp only [Act.put,zA,zB,zC,zD,zE,zF]
 refine tk (i:=15) (v:=?_) rfl ?_
 try simp only [Act.put,zA,zB,zC,zD,zE,zF]
 refine tk (i:=16) (v:=?_) rfl ?_
 try simp only [Act.put,zA,zB,zC,zD,zE,zF]
 refine tk (i:=17) (v:=?_) rfl ?_
 try simp only [Act.put,zA,zB,zC,zD,zE,zF]
 refine tk (i:=18) (v:=?_) rfl ?_
 try simp only [Act.put,zA,zB,zC,zD,zE,zF]
 refine wpAnyH_ready (rs:=[6]) (by kernel_rfl) (by simp) ?_
 refine AllReadyH.cons rfl (fun K hK9 => ?_) AllReadyH.nil
 go_simp
 go_wp2_with fail
 refine (K1.out _ (hK.trans (kD))).mono ?_
 rintro e u1 ⟨rfl,k1⟩
 have eu1:=(HS.out _ ((kD).trans k1)).1
 refine hK9.out _ _ eu1 (fun hHeldu1 => ?_)
 clear hK9 K
 refine tk (i:=7) (v:=?_) rfl ?_
 try simp only [Act.put,zA,zB,zC,zD,zE,zF]
 refine wpAnyH_ready (rs:=[11]) (by kernel_rfl) (by simp) ?_
 refine AllReadyH.cons rfl (fun K hK9 => ?_) AllReadyH.nil
 go_simp
 go_wp2_with fail
 refine (K0.out _ (hK.trans (kD.trans k1))).mono ?_
 rintro e u2 ⟨rfl,k2⟩
 have eu2:=(HS.out _ ((kD.trans k1).trans k2)).1
 refine hK9.out _ _ eu2 (fun hHeldu2 => ?_)
 clear hK9 K
 refine tk (i:=12) (v:=?_) rfl ?_
 try simp only [Act.put,zA,zB,zC,zD,zE,zF]
 refine tk (i:=19) (v:=?_) rfl ?_
 try simp only [Act.put,zA,zB,zC,zD,zE,zF]
 refine wpAnyH_ready (rs:=[20]) (by kernel_rfl) (by simp) ?_
 refine AllReadyH.cons rfl (fun K hK9 => ?_) AllReadyH.nil
 obtain ⟨e1,s0,s1,s2,s3,sf⟩:=HS.out _ ((kD.trans k1).trans k2)
 go_simp
 refine hK9.out _ _ ⟨(set4 _ _ _ _ (by omega) _ _ _ _).trans e1.1,(set4 _ _ _ _ (by omega) _ _ _ _).trans e1.2.1,(set4 _ _ _ _ (by omega) _ _ _ _).trans e1.2.2⟩ (fun hHeld9 => ?_)
 clear hK9 K
 refine wpAnyH_done (by kernel_rfl) ?_ _
 clear hHeld9
 go_wp2
 refine bodyPost_ret (v:=.agg #[.bool ng,.int .i64 h,.int .i64 (x + ((B : Int) - 60)),.bool rs]) (by simp [results,Tryz.results162,go_sem,s0,s1,s2,s3]) rfl ⟨rfl,?_⟩
 exact (hK.trans ((kD.trans k1).trans k2)).setCell (by simp) _ |>.setCell (by simp) _ |>.setCell (by simp) _ |>.setCell (by simp) _
theorem leading_any (ng : Bool) (L : List Int) (x : Int) (hne : L ≠ []) (hv : vld ⟨ng,L,x⟩ = true) (ao : Option Addr) (c : Nat) (w : World) (h : Sl w (.slice ao L.length c) L) :
  Calls Tryz.prog 162 #[.agg #[.bool ng,.slice ao L.length c,.int .i64 x]] w fun e w' => e = .returned (.agg #[.bool ng,.int .i64 ((hd (nv L) : Nat) : Int),.int .i64 (x + ((bl (nv L) : Int) - 60)),.bool (decide (60 < (bl (nv L) : Int)))]) ∧ Kept w w':=by
 obtain ⟨p1,p2,p3,p4,p5,p6⟩:=vld_some ng L x hne hv
 have hpos:=List.length_pos_iff.2 hne
 have hv0 : nv L ≠ 0:=fun h0 => by have:=nv_odd L p2 p4; omega
 have hbl:=bl_le _ _ (nv_lt L p2)
 have hb:=hd_bounds _ hv0
 refine leading_gen ng ao L.length c hpos x p5 p6 (bl (nv L)) (by omega) ((hd (nv L) / 1073741824 : Nat) : Int) ((hd (nv L) % 1073741824 : Nat) : Int) (((hd (nv L) / 1073741824 : Nat) : Int) * 1073741824) _ _ ?_ (head_or (nv L) hv0) rfl w (fun u k => length_any L ⟨p2,fun _ => p3⟩ (by omega) _ u (h.kept k)) (fun u k => ?_) (fun u k => ?_)
 ·rw [wrap_i64]
  omega
 ·have:=piece_any L p2 (.slice ao L.length c) ((bl (nv L) : Int) - 60 + 30) (by omega) (by omega) u (h.kept k)
  rw [pcz_high _ hv0] at this
  exact this
 ·have:=piece_any L p2 (.slice ao L.length c) ((bl (nv L) : Int) - 60) (by omega) (by omega) u (h.kept k)
  rw [pcz_low _ hv0] at this
  exact this
end Go.Proofs.YtdhimkpfnhoagaaGreatDoor
