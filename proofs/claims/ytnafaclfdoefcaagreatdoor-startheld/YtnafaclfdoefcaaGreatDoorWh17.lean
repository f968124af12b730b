/- The walks of exact's split and of the three ways. The walks of Neg,Abs,Canon,Next of package bits: what each call gives,width by width. Neg,Abs,Canon,Next,Prev of package bits: one contract each,for every int and every width. -/
import Derived.Test.YtnafaclfdoefcaaGreatDoorWh16
import Derived.Test.YtnafaclfdoefcaaGreatDoorWh02
namespace Go.Proofs.YtnafaclfdoefcaaGreatDoor
open Go.ChangeShapes Go.WideShapes Go.ChangeAt Go.RowKit
set_option linter.unusedVariables false
set_option linter.unusedSimpArgs false
set_option maxHeartbeats 16000000
set_option maxRecDepth 100000
theorem split_false (ng : Bool) (h ex kept P Q1 : Int) (m : Nat) (hm : m < 62) (od hf rt : Bool) (hk : h / 2 ^ (m + 1) = kept) (hP : wrap64 (2 ^ m) = P) (hQ : IntKind.i64.wrap (P - 1) = Q1) (c1 c2 c3 : Int) (hc1 : bits .and .i64 kept 1 = c1) (hc2 : bits .and .i64 h P = c2) (hc3 : bits .and .i64 h Q1 = c3) (hod : (c1 == 1) = od) (hhf : (c2 != 0) = hf) (hrt : (c3 != 0) = rt) (w : World) : Calls Tryz.prog 289 #[.agg #[.bool ng,.int .i64 h,.int .i64 ex,.bool false],.int .i64 ((m : Int) + 1)] w fun e w' => e = .returned (.tuple #[.int .i64 kept,.agg #[.bool ng,.bool od,.bool hf,.bool rt]]) ∧ Kept w w':=by
 have hK : Kept w ((w.alloc (.cells #[.bool ng,.int .i64 h,.int .i64 ex,.bool false] 286)).alloc (.cells #[.bool false,.bool false,.bool false,.bool false] 324)):=((Kept.refl w).alloc _ _).alloc _ _
 go_enter Tryz.func289,Tryz.ntmps289
 go_wp2
 go_quiet (fail)
 go_wp2
 obtain ⟨W0,hW0⟩ : ∃ W0,((w.alloc (.cells #[.bool ng,.int .i64 h,.int .i64 ex,.bool false] 286)).alloc (.cells #[.bool false,.bool false,.bool false,.bool false] 324)).drewN nq = W0:=⟨_,rfl⟩
 have q0 : W0.cell? ⟨w.heap.size,0,none⟩ = some (.bool ng):=by rw [← hW0]; simp [go_sem]
 have q1 : W0.cell? ⟨w.heap.size,1,none⟩ = some (.int .i64 h):=by rw [← hW0]; simp [go_sem]
 have q3 : W0.cell? ⟨w.heap.size,3,none⟩ = some (.bool false):=by rw [← hW0]; simp [go_sem]
 have s0 : W0.cell? ⟨w.heap.size + 1,0,none⟩ = some (.bool false):=by rw [← hW0]; simp [go_sem]
 have s1 : W0.cell? ⟨w.heap.size + 1,1,none⟩ = some (.bool false):=by rw [← hW0]; simp [go_sem]
 have s2 : W0.cell? ⟨w.heap.size + 1,2,none⟩ = some (.bool false):=by rw [← hW0]; simp [go_sem]
 have s3 : W0.cell? ⟨w.heap.size + 1,3,none⟩ = some (.bool false):=by rw [← hW0]; simp [go_sem]
 have sf : ∀ o,W0.frozen? ⟨w.heap.size + 1,o,none⟩ = false:=fun o => by rw [← hW0]; simp [go_sem]
 have hK0 : Kept w W0:=by rw [← hW0]; exact hK.drewN nq
 rw [hW0]
 clear hW0 hK
 refine wp_region_held_drew (S:=fun u => u.cell? ⟨w.heap.size,0,none⟩ = some (.bool ng) ∧ u.cell? ⟨w.heap.size,1,none⟩ = some (.int .i64 h) ∧ u.cell? ⟨w.heap.size,3,none⟩ = some (.bool false)) (by kernel_rfl) ⟨q0,q1,q3⟩ (fun hHeld => ?_)
 refine tk (i:=0) (v:=?_) rfl ?_
 try simp only [Act.put,zA,zB,zC,zD,zE,zF]
 refine tk (i:=1) (v:=?_) rfl ?_
 try simp only [Act.put,zA,zB,zC,zD,zE,zF]
 refine tk (i:=2) (v:=?_) rfl ?_
 try simp only [Act.put,zA,zB,zC,zD,zE,zF]
 refine tk (i:=3) (v:=?_) rfl ?_
 try simp only [Act.put,zA,zB,zC,zD,zE,zF]
 refine tk (i:=4) (v:=?_) rfl ?_
 try simp only [Act.put,zA,zB,zC,zD,zE,zF]
 refine tk (i:=5) (v:=?_) rfl ?_
 try simp only [Act.put,zA,zB,zC,zD,zE,zF]
 refine tk (i:=6) (v:=?_) rfl ?_
 try simp only [Act.put,zA,zB,zC,zD,zE,zF]
 refine tk (i:=7) (v:=?_) rfl ?_
 try simp only [Act.put,zA,zB,zC,zD,zE,zF]
 refine tk (i:=8) (v:=?_) rfl ?_
 try simp only [Act.put,zA,zB,zC,zD,zE,zF]
 refine tk (i:=9) (v:=?_) rfl ?_
 try simp only [Act.put,zA,zB,zC,zD,zE,zF]
 refine tk (i:=10) (v:=?_) rfl ?_
 try simp only [Act.put,zA,zB,zC,zD,zE,zF]
 refine tk (i:=11) (v:=?_) rfl ?_
 try simp only [Act.put,zA,zB,zC,zD,zE,zF]
 refine tk (i:=12) (v:=?_) rfl ?_
 try simp only [Act.put,zA,zB,zC,zD,zE,zF]
 refine tk (i:=13) (v:=?_) rfl ?_
 try simp only [Act.put,zA,zB,zC,zD,zE,zF]
 refine tk (i:=14) (v:=?_) rfl ?_
 try simp only [Act.put,zA,zB,zC,zD,zE,zF]
 refine tk (i:=15) (v:=?_) rfl ?_
 try simp only [Act.put,zA,zB,zC,zD,zE,zF]
 refine tk (i:=16) (v:=?_) rfl ?_
 try simp only [Act.put,zA,zB,zC,zD,zE,zF]
 refine tk (i:=17) (v:=?_) rfl ?_
 try simp only [Act.put,zA,zB,zC,zD,zE,zF]
 refine tk (i:=18) (v:=?_) rfl ?_
 try simp only [Act.put,zA,zB,zC,zD,zE,zF]
 refine tk (i:=19) (v:=?_) rfl ?_
 try simp only [Act.put,zA,zB,zC,zD,zE,zF]
 refine tk (i:=20) (v:=?_) rfl ?_
 try simp only [Act.put,zA,zB,zC,zD,zE,zF]
 refine tk (i:=21) (v:=?_) rfl ?_
 try simp only [Act.put,zA,zB,zC,zD,zE,zF]
 refine tk (i:=22) (v:=?_) rfl ?_
 try simp only [Act.put,zA,zB,zC,zD,zE,zF]
 refine wpAnyH_ready (rs:=[23]) (by kernel_rfl) (by simp) ?_
 refine AllReadyH.cons rfl (fun K hK9 => ?_) AllReadyH.nil
 go_simp
 refine hK9.out _ _ ⟨(set4 _ _ _ _ (by omega) _ _ _ _).trans q0,(set4 _ _ _ _ (by omega) _ _ _ _).trans q1,(set4 _ _ _ _ (by omega) _ _ _ _).trans q3⟩ (fun hHeld3 => ?_)
 clear hK9 K hHeld
 refine wpAnyH_done (by kernel_rfl) ?_ _
 clear hHeld3
 go_wp2
 refine bodyPost_ret (v:=.tuple #[.int .i64 kept,.agg #[.bool ng,.bool od,.bool hf,.bool rt]]) (by simp [results,Tryz.results289,go_sem,s0,s1,s2,s3]) rfl ⟨rfl,?_⟩
 first
 | exact (hK0.drew.setCell (by simp) _ |>.setCell (by simp) _ |>.setCell (by simp) _ |>.setCell (by simp) _)
 | exact (hK0.setCell (by simp) _ |>.setCell (by simp) _ |>.setCell (by simp) _ |>.setCell (by simp) _).drew
theorem split_true (ng : Bool) (h ex kept P Q1 : Int) (m : Nat) (hm : m < 62) (od hf rt : Bool) (hk : h / 2 ^ (m + 1) = kept) (hP : wrap64 (2 ^ m) = P) (hQ : IntKind.i64.wrap (P - 1) = Q1) (c1 c2 c3 : Int) (hc1 : bits .and .i64 kept 1 = c1) (hc2 : bits .and .i64 h P = c2) (hc3 : bits .and .i64 h Q1 = c3) (hod : (c1 == 1) = od) (hhf : (c2 != 0) = hf) (hrt : rt = true) (w : World) : Calls Tryz.prog 289 #[.agg #[.bool ng,.int .i64 h,.int .i64 ex,.bool true],.int .i64 ((m : Int) + 1)] w fun e w' => e = .returned (.tuple #[.int .i64 kept,.agg #[.bool ng,.bool od,.bool hf,.bool rt]]) ∧ Kept w w':=by
 have hK : Kept w ((w.alloc (.cells #[.bool ng,.int .i64 h,.int .i64 ex,.bool true] 286)).alloc (.cells #[.bool false,.bool false,.bool false,.bool false] 324)):=((Kept.refl w).alloc _ _).alloc _ _
 subst hrt
 go_enter Tryz.func289,Tryz.ntmps289
 go_wp2
 go_quiet (fail)
 go_wp2
 obtain ⟨W0,hW0⟩ : ∃ W0,((w.alloc (.cells #[.bool ng,.int .i64 h,.int .i64 ex,.bool true] 286)).alloc (.cells #[.bool false,.bool false,.bool false,.bool false] 324)).drewN nq = W0:=⟨_,rfl⟩
 have q0 : W0.cell? ⟨w.heap.size,0,none⟩ = some (.bool ng):=by rw [← hW0]; simp [go_sem]
 have q1 : W0.cell? ⟨w.heap.size,1,none⟩ = some (.int .i64 h):=by rw [← hW0]; simp [go_sem]
 have q3 : W0.cell? ⟨w.heap.size,3,none⟩ = some (.bool true):=by rw [← hW0]; simp [go_sem]
 have s0 : W0.cell? ⟨w.heap.size + 1,0,none⟩ = some (.bool false):=by rw [← hW0]; simp [go_sem]
 have s1 : W0.cell? ⟨w.heap.size + 1,1,none⟩ = some (.bool false):=by rw [← hW0]; simp [go_sem]
 have s2 : W0.cell? ⟨w.heap.size + 1,2,none⟩ = some (.bool false):=by rw [← hW0]; simp [go_sem]
 have s3 : W0.cell? ⟨w.heap.size + 1,3,none⟩ = some (.bool false):=by rw [← hW0]; simp [go_sem]
 have sf : ∀ o,W0.frozen? ⟨w.heap.size + 1,o,none⟩ = false:=fun o => by rw [← hW0]; simp [go_sem]
 have hK0 : Kept w W0:=by rw [← hW0]; exact hK.drewN nq
 rw [hW0]
 clear hW0 hK
 refine wp_region_held_drew (S:=fun u => u.cell? ⟨w.heap.size,0,none⟩ = some (.bool ng) ∧ u.cell? ⟨w.heap.size,1,none⟩ = some (.int .i64 h) ∧ u.cell? ⟨w.heap.size,3,none⟩ = some (.bool true)) (by kernel_rfl) ⟨q0,q1,q3⟩ (fun hHeld => ?_)
 refine tk (i:=0) (v:=?_) rfl ?_
 try simp only [Act.put,zA,zB,zC,zD,zE,zF]
 refine tk (i:=1) (v:=?_) rfl ?_
 try simp only [Act.put,zA,zB,zC,zD,zE,zF]
 refine tk (i:=2) (v:=?_) rfl ?_
 try simp only [Act.put,zA,zB,zC,zD,zE,zF]
 refine tk (i:=3) (v:=?_) rfl ?_
 try simp only [Act.put,zA,zB,zC,zD,zE,zF]
 refine tk (i:=4) (v:=?_) rfl ?_
 try simp only [Act.put,zA,zB,zC,zD,zE,zF]
 refine tk (i:=5) (v:=?_) rfl ?_
 try simp only [Act.put,zA,zB,zC,zD,zE,zF]
 refine tk (i:=6) (v:=?_) rfl ?_
 try simp only [Act.put,zA,zB,zC,zD,zE,zF]
 refine tk (i:=7) (v:=?_) rfl ?_
 try simp only [Act.put,zA,zB,zC,zD,zE,zF]
 refine tk (i:=8) (v:=?_) rfl ?_
 try simp only [Act.put,zA,zB,zC,zD,zE,zF]
 refine tk (i:=9) (v:=?_) rfl ?_
 try simp only [Act.put,zA,zB,zC,zD,zE,zF]
 refine tk (i:=10) (v:=?_) rfl ?_
 try simp only [Act.put,zA,zB,zC,zD,zE,zF]
 refine tk (i:=11) (v:=?_) rfl ?_
 try simp only [Act.put,zA,zB,zC,zD,zE,zF]
 refine tk (i:=12) (v:=?_) rfl ?_
 try simp only [Act.put,zA,zB,zC,zD,zE,zF]
 refine tk (i:=13) (v:=?_) rfl ?_
 try simp only [Act.put,zA,zB,zC,zD,zE,zF]
 refine wpAnyH_take (i:=14) (v:=undef) rfl (by kernel_rfl) (by kernel_rfl) (by kernel_rfl) (fun _ _ _ h => h) (Or.inr ⟨by rfl,rfl⟩) (by assumption) ?_
 try simp only [Act.put,zA,zB,zC,zD,zE,zF]
 refine wpAnyH_take (i:=15) (v:=undef) rfl (by kernel_rfl) (by kernel_rfl) (by kernel_rfl) (fun _ _ _ h => h) (Or.inr ⟨by rfl,rfl⟩) (by assumption) ?_
 try simp only [Act.put,zA,zB,zC,zD,zE,zF]
 refine wpAnyH_take (i:=16) (v:=undef) rfl (by kernel_rfl) (by kernel_rfl) (by kernel_rfl) (fun _ _ _ h => h) (Or.inr ⟨by rfl,rfl⟩) (by assumption) ?_
 try simp only [Act.put,zA,zB,zC,zD,zE,zF]
 refine wpAnyH_take (i:=17) (v:=undef) rfl (by kernel_rfl) (by kernel_rfl) (by kernel_rfl) (fun _ _ _ h => h) (Or.inr ⟨by rfl,rfl⟩) (by assumption) ?_
 try simp only [Act.put,zA,zB,zC,zD,zE,zF]
 refine wpAnyH_take (i:=18) (v:=undef) rfl (by kernel_rfl) (by kernel_rfl) (by kernel_rfl) (fun _ _ _ h => h) (Or.inr ⟨by rfl,rfl⟩) (by assumption) ?_
 try simp only [Act.put,zA,zB,zC,zD,zE,zF]
 refine wpAnyH_take (i:=19) (v:=undef) rfl (by kernel_rfl) (by kernel_rfl) (by kernel_rfl) (fun _ _ _ h => h) (Or.inr ⟨by rfl,rfl⟩) (by assumption) ?_
 try simp only [Act.put,zA,zB,zC,zD,zE,zF]
 refine tk (i:=20) (v:=?_) rfl ?_
 try simp only [Act.put,zA,zB,zC,zD,zE,zF]
 refine tk (i:=21) (v:=?_) rfl ?_
 try simp only [Act.put,zA,zB,zC,zD,zE,zF]
 refine tk (i:=22) (v:=?_) rfl ?_
 try simp only [Act.put,zA,zB,zC,zD,zE,zF]
 refine wpAnyH_ready (rs:=[23]) (by kernel_rfl) (by simp) ?_
 refine AllReadyH.cons rfl (fun K hK9 => ?_) AllReadyH.nil
 go_simp
 refine hK9.out _ _ ⟨(set4 _ _ _ _ (by omega) _ _ _ _).trans q0,(set4 _ _ _ _ (by omega) _ _ _ _).trans q1,(set4 _ _ _ _ (by omega) _ _ _ _).trans q3⟩ (fun hHeld3 => ?_)
 clear hK9 K hHeld
 refine wpAnyH_done (by kernel_rfl) ?_ _
 clear hHeld3
 go_wp2
 refine bodyPost_ret (v:=.tuple #[.int .i64 kept,.agg #[.bool ng,.bool od,.bool hf,.bool true]]) (by simp [results,Tryz.results289,go_sem,s0,s1,s2,s3]) rfl ⟨rfl,?_⟩
 first
 | exact (hK0.drew.setCell (by simp) _ |>.setCell (by simp) _ |>.setCell (by simp) _ |>.setCell (by simp) _)
 | exact (hK0.setCell (by simp) _ |>.setCell (by simp) _ |>.setCell (by simp) _ |>.setCell (by simp) _).drew
theorem away_1 (ng od hf rt : Bool) (w : World) : Calls Tryz.prog 316 #[.agg #[.bool ng,.bool od,.bool hf,.bool rt]] w fun e w' => e = .returned (.bool (hf && (rt || od))) ∧ Kept w w':=by
 cases ng <;> cases od <;> cases hf <;> cases rt
 all_goals
  go_enter Tryz.func316,Tryz.ntmps316
  go_wp2
  go_ret
  exact ⟨rfl,(Kept.refl _).alloc _ _⟩
theorem away_2 (ng od hf rt : Bool) (w : World) : Calls Tryz.prog 317 #[.agg #[.bool ng,.bool od,.bool hf,.bool rt]] w fun e w' => e = .returned (.bool (ng && (hf || rt))) ∧ Kept w w':=by
 cases ng <;> cases od <;> cases hf <;> cases rt
 all_goals
  go_enter Tryz.func317,Tryz.ntmps317
  go_wp2
  go_ret
  exact ⟨rfl,(Kept.refl _).alloc _ _⟩
theorem away_3 (ng od hf rt : Bool) (w : World) : Calls Tryz.prog 318 #[.agg #[.bool ng,.bool od,.bool hf,.bool rt]] w fun e w' => e = .returned (.bool (!ng && (hf || rt))) ∧ Kept w w':=by
 cases ng <;> cases od <;> cases hf <;> cases rt
 all_goals
  go_enter Tryz.func318,Tryz.ntmps318
  go_wp2
  go_ret
  exact ⟨rfl,(Kept.refl _).alloc _ _⟩
theorem neg_64 (b : Int) (s : Int) (hs : bits .xor .i64 b (-9223372036854775808) = s) (w : World) : Calls Tryz.prog 324 #[.int .i64 b,.int .i64 64] w fun e w' => e = .returned (.int .i64 (if cls b 64 = 4 then 9221120237041090561 else s)) ∧ Kept w w':=by
 go_enter Tryz.func324,Tryz.ntmps324
 go_wp2_with (first | (go_at_call 101; refine (numbers_64 b _).mono ?_; rintro e w1 ⟨rfl,hk1⟩))
 all_goals
  go_ret
  refine ⟨ret_int ?_,hk1.alloc _ _⟩
  try unfold wrap64
  (try simp only [Bool.not_eq_true',Bool.not_eq_false',bne_iff_ne,bne_eq_false_iff_eq,beq_iff_eq,beq_eq_false_iff_ne,ne_eq] at *) <;> ((repeat' split) <;> omega)
theorem next_64 (b : Int) (hb1 : -9223372036854775808 ≤ b) (hb2 : b ≤ 9223372036854775807) (g : Int) (hg : bits .and .i64 b (-9223372036854775808) = g) (hx : cls b 64 = 4 ∨ b ≤ 9218868437227405312) (hq : g = 0 ↔ 0 ≤ b) (w : World) : Calls Tryz.prog 334 #[.int .i64 b,.int .i64 64] w fun e w' => e = .returned (.int .i64 (if cls b 64 = 4 then 9221120237041090561 else if b = 9218868437227405312 then b else if b = -9223372036854775808 then 1 else if g = 0 then b + 1 else b - 1)) ∧ Kept w w':=by
 go_enter Tryz.func334,Tryz.ntmps334
 go_wp2_with (first | (go_at_call 101; refine (numbers_64 b _).mono ?_; rintro e w1 ⟨rfl,hk1⟩))
 all_goals
  go_ret
  refine ⟨ret_int ?_,hk1.alloc _ _⟩
  try unfold wrap64
  (try simp only [Bool.not_eq_true',Bool.not_eq_false',bne_iff_ne,bne_eq_false_iff_eq,beq_iff_eq,beq_eq_false_iff_ne,ne_eq] at *) <;> ((repeat' split) <;> omega)
theorem neg_32 (b : Int) (s : Int) (hs : bits .xor .i64 b 2147483648 = s) (w : World) : Calls Tryz.prog 324 #[.int .i64 b,.int .i64 32] w fun e w' => e = .returned (.int .i64 (if cls b 32 = 4 then 2143289345 else s)) ∧ Kept w w':=by
 go_enter Tryz.func324,Tryz.ntmps324
 go_wp2_with (first | (go_at_call 101; refine (numbers_32 b _).mono ?_; rintro e w1 ⟨rfl,hk1⟩))
 all_goals
  go_ret
  refine ⟨ret_int ?_,hk1.alloc _ _⟩
  try unfold wrap64
  (try simp only [Bool.not_eq_true',Bool.not_eq_false',bne_iff_ne,bne_eq_false_iff_eq,beq_iff_eq,beq_eq_false_iff_ne,ne_eq] at *) <;> ((repeat' split) <;> omega)
theorem next_32 (b : Int) (hb1 : -9223372036854775808 ≤ b) (hb2 : b ≤ 9223372036854775807) (g : Int) (hg : bits .and .i64 b 2147483648 = g) (hx : cls b 32 = 4 ∨ 0 ≤ b ∧ b < 4294967296) (w : World) : Calls Tryz.prog 334 #[.int .i64 b,.int .i64 32] w fun e w' => e = .returned (.int .i64 (if cls b 32 = 4 then 2143289345 else if b = 2139095040 then b else if b = 2147483648 then 1 else if g = 0 then b + 1 else b - 1)) ∧ Kept w w':=by
 go_enter Tryz.func334,Tryz.ntmps334
 go_wp2_with (first | (go_at_call 101; refine (numbers_32 b _).mono ?_; rintro e w1 ⟨rfl,hk1⟩))
 all_goals
  go_ret
  refine ⟨ret_int ?_,hk1.alloc _ _⟩
  try unfold wrap64
  (try simp only [Bool.not_eq_true',Bool.not_eq_false',bne_iff_ne,bne_eq_false_iff_eq,beq_iff_eq,beq_eq_false_iff_ne,ne_eq] at *) <;> ((repeat' split) <;> omega)
theorem neg_0 (b n : Int) (h1 : (n == 32) = false) (h2 : (n == 64) = false)  (w : World) : Calls Tryz.prog 324 #[.int .i64 b,.int .i64 n] w fun e w' => e = .returned (.int .i64 (0)) ∧ Kept w w':=by
 go_enter Tryz.func324,Tryz.ntmps324
 go_wp2_with (first | (go_at_call 101; refine (numbers_0 b _ h1 h2 _).mono ?_; rintro e w1 ⟨rfl,hk1⟩))
 go_ret
 exact ⟨rfl,hk1.alloc _ _⟩
theorem next_0 (b n : Int) (h1 : (n == 32) = false) (h2 : (n == 64) = false)  (w : World) : Calls Tryz.prog 334 #[.int .i64 b,.int .i64 n] w fun e w' => e = .returned (.int .i64 (0)) ∧ Kept w w':=by
 go_enter Tryz.func334,Tryz.ntmps334
 go_wp2_with (first | (go_at_call 101; refine (numbers_0 b _ h1 h2 _).mono ?_; rintro e w1 ⟨rfl,hk1⟩))
 go_ret
 exact ⟨rfl,hk1.alloc _ _⟩
theorem cls_num_64 (b : Int) (h : cls b 64 ≠ 4) : b % 9223372036854775808 ≤ 9218868437227405312:=by
 unfold cls clsOf at h
 rw [if_pos rfl] at h
 split at h <;> omega
theorem neg_any (b n : Int) (hb1 : -9223372036854775808 ≤ b) (hb2 : b ≤ 9223372036854775807) (w : World) : Calls Tryz.prog 324 #[.int .i64 b,.int .i64 n] w fun e w' => e = .returned (.int .i64 (ngt b n)) ∧ Kept w w':=by
 by_cases h64 : n = 64
 ·subst h64
  refine (neg_64 b _ (xor_min b hb1 hb2) w).mono ?_
  rintro e w' ⟨rfl,hk⟩
  refine ⟨ret_int ?_,hk⟩
  by_cases hc : cls b 64 = 4 <;> simp [ngt,isnum,nanOf,hc]
 ·by_cases h32 : n = 32
  ·subst h32
   refine (neg_32 b _ rfl w).mono ?_
   rintro e w' ⟨rfl,hk⟩
   refine ⟨ret_int ?_,hk⟩
   by_cases hc : cls b 32 = 4
   ·simp [ngt,isnum,nanOf,hc]
   ·have hv:=cls_valid b hc
    rw [xor_31 b hv.1 hv.2]
    simp [ngt,isnum,hc]
  ·refine (neg_0 b n (by simpa using h32) (by simpa using h64) w).mono ?_
   rintro e w' ⟨rfl,hk⟩
   exact ⟨ret_int (by simp [ngt,isnum_0 b n h64 h32,nanOf_0 n h64 h32]),hk⟩
theorem next_any (b n : Int) (hb1 : -9223372036854775808 ≤ b) (hb2 : b ≤ 9223372036854775807) (w : World) : Calls Tryz.prog 334 #[.int .i64 b,.int .i64 n] w fun e w' => e = .returned (.int .i64 (nxt b n)) ∧ Kept w w':=by
 by_cases h64 : n = 64
 ·subst h64
  refine (next_64 b hb1 hb2 _ (and_min b hb1 hb2) ?_ (by split <;> omega) w).mono ?_
  ·by_cases hc : cls b 64 = 4
   ·exact Or.inl hc
   ·have:=cls_num_64 b hc
    exact Or.inr (by omega)
  rintro e w' ⟨rfl,hk⟩
  refine ⟨ret_int ?_,hk⟩
  by_cases hc : cls b 64 = 4
  ·simp [nxt,isnum,nanOf,hc]
  ·have hi : isnum b 64 = true:=by simp [isnum,hc]
   unfold nxt
   rw [if_neg hc,if_pos hi,if_pos rfl]
   (repeat' split) <;> omega
 ·by_cases h32 : n = 32
  ·subst h32
   refine (next_32 b hb1 hb2 _ rfl ?_ w).mono ?_
   ·by_cases hc : cls b 32 = 4
    ·exact Or.inl hc
    ·exact Or.inr (cls_valid b hc)
   rintro e w' ⟨rfl,hk⟩
   refine ⟨ret_int ?_,hk⟩
   by_cases hc : cls b 32 = 4
   ·simp [nxt,isnum,nanOf,hc]
   ·have hv:=cls_valid b hc
    have hi : isnum b 32 = true:=by simp [isnum,hc]
    rw [and_31 b hv.1 hv.2]
    unfold nxt
    rw [if_neg hc,if_pos hi,if_neg (by decide : ¬ (32 : Int) = 64)]
    (repeat' split) <;> omega
  ·refine (next_0 b n (by simpa using h32) (by simpa using h64) w).mono ?_
   rintro e w' ⟨rfl,hk⟩
   exact ⟨ret_int (by simp [nxt,isnum_0 b n h64 h32,nanOf_0 n h64 h32]),hk⟩
theorem nanOf_bd (n : Int) : -9223372036854775808 ≤ nanOf n ∧ nanOf n ≤ 9223372036854775807:=by
 unfold nanOf
 (repeat' split) <;> omega
theorem isnum_inv (b n : Int) (h : isnum b n = true) : (n = 64 ∧ cls b 64 ≠ 4) ∨ (n = 32 ∧ cls b 32 ≠ 4):=by
 simp only [isnum,decide_eq_true_eq] at h
 rcases h with ⟨rfl | rfl,h⟩
 ·exact Or.inl ⟨rfl,h⟩
 ·exact Or.inr ⟨rfl,h⟩
theorem ngt_bd (b n : Int) (hb1 : -9223372036854775808 ≤ b) (hb2 : b ≤ 9223372036854775807) : -9223372036854775808 ≤ ngt b n ∧ ngt b n ≤ 9223372036854775807:=by
 have:=nanOf_bd n
 by_cases hi : isnum b n = true
 ·rcases isnum_inv b n hi with ⟨rfl,hc⟩ | ⟨rfl,hc⟩
  ·unfold ngt; rw [if_pos hi,if_pos rfl]; split <;> omega
  ·have hv:=cls_valid b hc
   unfold ngt; rw [if_pos hi,if_neg (by decide : ¬ (32 : Int) = 64)]; split <;> omega
 ·unfold ngt; rw [if_neg hi]; exact this
theorem nxt_bd (b n : Int) (hb1 : -9223372036854775808 ≤ b) (hb2 : b ≤ 9223372036854775807) : -9223372036854775808 ≤ nxt b n ∧ nxt b n ≤ 9223372036854775807:=by
 have:=nanOf_bd n
 by_cases hi : isnum b n = true
 ·rcases isnum_inv b n hi with ⟨rfl,hc⟩ | ⟨rfl,hc⟩
  ·have:=cls_num_64 b hc
   unfold nxt; rw [if_pos hi,if_pos rfl]; (repeat' split) <;> omega
  ·have hv:=cls_valid b hc
   unfold nxt; rw [if_pos hi,if_neg (by decide : ¬ (32 : Int) = 64)]; (repeat' split) <;> omega
 ·unfold nxt; rw [if_neg hi]; exact this
def prv (b n : Int) : Int:=ngt (nxt (ngt b n) n) n
theorem prev_any (b n : Int) (hb1 : -9223372036854775808 ≤ b) (hb2 : b ≤ 9223372036854775807) (w : World) : Calls Tryz.prog 323 #[.int .i64 b,.int .i64 n] w fun e w' => e = .returned (.int .i64 (prv b n)) ∧ Kept w w':=by
 have q1:=ngt_bd b n hb1 hb2
 have q2:=nxt_bd (ngt b n) n q1.1 q1.2
 go_enter Tryz.func323,Tryz.ntmps323
 go_wp2_with fail
 refine (neg_any b n hb1 hb2 _).mono ?_
 rintro e w1 ⟨rfl,hk1⟩
 go_wp2_with fail
 refine (next_any (ngt b n) n q1.1 q1.2 _).mono ?_
 rintro e w2 ⟨rfl,hk2⟩
 go_wp2_with fail
 refine (neg_any (nxt (ngt b n) n) n q2.1 q2.2 _).mono ?_
 rintro e w3 ⟨rfl,hk3⟩
 go_wp2
 go_ret
 exact ⟨rfl,(hk1.trans hk2).trans hk3⟩
end Go.Proofs.YtnafaclfdoefcaaGreatDoor
