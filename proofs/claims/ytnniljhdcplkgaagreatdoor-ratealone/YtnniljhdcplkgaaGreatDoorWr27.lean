/- The walks of exact's split and of the three ways. -/
import Derived.Test.YtnniljhdcplkgaaGreatDoorWr13
import Derived.Test.YtnniljhdcplkgaaGreatDoorWr24
namespace Go.Proofs.YtnniljhdcplkgaaGreatDoor
open Go.ChangeShapes Go.WideShapes Go.ChangeAt Go.RowKit
set_option maxHeartbeats 16000000
set_option maxRecDepth 100000
set_option linter.unusedVariables false
set_option linter.unusedSimpArgs false
theorem split_false (ng : Bool) (h ex kept P Q1 : Int) (m : Nat) (hm : m < 62) (od hf rt : Bool) (hk : h / 2 ^ (m + 1) = kept) (hP : wrap64 (2 ^ m) = P) (hQ : IntKind.i64.wrap (P - 1) = Q1) (c1 c2 c3 : Int) (hc1 : bits .and .i64 kept 1 = c1) (hc2 : bits .and .i64 h P = c2) (hc3 : bits .and .i64 h Q1 = c3) (hod : (c1 == 1) = od) (hhf : (c2 != 0) = hf) (hrt : (c3 != 0) = rt) (w : World) : Calls Tryz.prog 126 #[.agg #[.bool ng,.int .i64 h,.int .i64 ex,.bool false],.int .i64 ((m : Int) + 1)] w fun e w' => e = .returned (.tuple #[.int .i64 kept,.agg #[.bool ng,.bool od,.bool hf,.bool rt]]) ∧ Kept w w':=by
 have hK : Kept w ((w.alloc (.cells #[.bool ng,.int .i64 h,.int .i64 ex,.bool false] 117)).alloc (.cells #[.bool false,.bool false,.bool false,.bool false] 142)):=((Kept.refl w).alloc _ _).alloc _ _
 go_enter Tryz.func126,Tryz.ntmps126
 go_wp2
 go_quiet (fail)
 go_wp2
 obtain ⟨W0,hW0⟩ : ∃ W0,((w.alloc (.cells #[.bool ng,.int .i64 h,.int .i64 ex,.bool false] 117)).alloc (.cells #[.bool false,.bool false,.bool false,.bool false] 142)).drewN nq = W0:=⟨_,rfl⟩
 have q0 : W0.cell? ⟨w.heap.size,0,none⟩ = some (.bool ng):=by rw [← hW0]; simp [go_sem]
 have q1 : W0.cell? ⟨w.heap.size,1,none⟩ = some (.int .i64 h):=by rw [← hW0]; simp [go_sem]
 have q3 : W0.cell? ⟨w.heap.size,3,none⟩ = some (.bool false):=by rw [← hW0]; simp [go_sem]
 have s0 : W0.cell? ⟨w.heap.size + 1,0,none⟩ = some (.bool false):=by rw [← hW0]; simp [go_sem]
 have s1 : W0.cell? ⟨w.heap.size + 1,1,none⟩ = some (.bool false):=by rw [← hW0]; simp [go_sem]
 have s2 : W0.cell? ⟨w.heap.size + 1,2,none⟩ = some (.bool false):=by rw [← hW0]; simp [go_sem]
 have s3 : W0.cell? ⟨w.heap.size + 1,3,none⟩ = some (.bool false):=by rw [← hW0]; simp [go_sem]
 have sf : ∀ o,W0.frozen? ⟨w.heap.size + 1,o,none⟩ = false:=fun o => by rw [← hW0]; simp [go_sem]
 have hK0 : Kept w W0:=by rw [← hW0]; exact hK.drewN nq
 rw [hW0]
 clear hW0 hK
 refine wp_region_held_drew (S:=fun u => u.cell? ⟨w.heap.size,0,none⟩ = some (.bool ng) ∧ u.cell? ⟨w.heap.size,1,none⟩ = some (.int .i64 h) ∧ u.cell? ⟨w.heap.size,3,none⟩ = some (.bool false)) (by kernel_rfl) ⟨q0,q1,q3⟩ (fun hHeld => ?_)
 refine tk (i:=0) (v:=?_) rfl ?_
 try simp only [Act.put,zA,zB,zC,zD,zE,zF]
 refine tk (i:=1) (v:=?_) rfl ?_
 try simp only [Act.put,zA,zB,zC,zD,zE,zF]
 refine tk (i:=2) (v:=?_) rfl ?_
 try simp only [Act.put,zA,zB,zC,zD,zE,zF]
 refine tk (i:=3) (v:=?_) rfl ?_
 try simp only [Act.put,zA,zB,zC,zD,zE,zF]
 refine tk (i:=4) (v:=?_) rfl ?_
 try simp only [Act.put,zA,zB,zC,zD,zE,zF]
 refine tk (i:=5) (v:=?_) rfl ?_
 try simp only [Act.put,zA,zB,zC,zD,zE,zF]
 refine tk (i:=6) (v:=?_) rfl ?_
 try simp only [Act.put,zA,zB,zC,zD,zE,zF]
 refine tk (i:=7) (v:=?_) rfl ?_
 try simp only [Act.put,zA,zB,zC,zD,zE,zF]
 refine tk (i:=8) (v:=?_) rfl ?_
 try simp only [Act.put,zA,zB,zC,zD,zE,zF]
 refine tk (i:=9) (v:=?_) rfl ?_
 try simp only [Act.put,zA,zB,zC,zD,zE,zF]
 refine tk (i:=10) (v:=?_) rfl ?_
 try simp only [Act.put,zA,zB,zC,zD,zE,zF]
 refine tk (i:=11) (v:=?_) rfl ?_
 try simp only [Act.put,zA,zB,zC,zD,zE,zF]
 refine tk (i:=12) (v:=?_) rfl ?_
 try simp only [Act.put,zA,zB,zC,zD,zE,zF]
 refine tk (i:=13) (v:=?_) rfl ?_
 try simp only [Act.put,zA,zB,zC,zD,zE,zF]
 refine tk (i:=14) (v:=?_) rfl ?_
 try simp only [Act.put,zA,zB,zC,zD,zE,zF]
 refine tk (i:=15) (v:=?_) rfl ?_
 try simp only [Act.put,zA,zB,zC,zD,zE,zF]
 refine tk (i:=16) (v:=?_) rfl ?_
 try simp only [Act.put,zA,zB,zC,zD,zE,zF]
 refine tk (i:=17) (v:=?_) rfl ?_
 try simp only [Act.put,zA,zB,zC,zD,zE,zF]
 refine tk (i:=18) (v:=?_) rfl ?_
 try simp only [Act.put,zA,zB,zC,zD,zE,zF]
 refine tk (i:=19) (v:=?_) rfl ?_
 try simp only [Act.put,zA,zB,zC,zD,zE,zF]
 refine tk (i:=20) (v:=?_) rfl ?_
 try simp only [Act.put,zA,zB,zC,zD,zE,zF]
 refine tk (i:=21) (v:=?_) rfl ?_
 try simp only [Act.put,zA,zB,zC,zD,zE,zF]
 refine tk (i:=22) (v:=?_) rfl ?_
 try simp only [Act.put,zA,zB,zC,zD,zE,zF]
 refine wpAnyH_ready (rs:=[23]) (by kernel_rfl) (by simp) ?_
 refine AllReadyH.cons rfl (fun K hK9 => ?_) AllReadyH.nil
 go_simp
 refine hK9.out _ _ ⟨(set4 _ _ _ _ (by omega) _ _ _ _).trans q0,(set4 _ _ _ _ (by omega) _ _ _ _).trans q1,(set4 _ _ _ _ (by omega) _ _ _ _).trans q3⟩ (fun hHeld3 => ?_)
 clear hK9 K hHeld
 refine wpAnyH_done (by kernel_rfl) ?_ _
 clear hHeld3
 go_wp2
 refine bodyPost_ret (v:=.tuple #[.int .i64 kept,.agg #[.bool ng,.bool od,.bool hf,.bool rt]]) (by simp [results,Tryz.results126,go_sem,s0,s1,s2,s3]) rfl ⟨rfl,?_⟩
 first
 | exact (hK0.drew.setCell (by simp) _ |>.setCell (by simp) _ |>.setCell (by simp) _ |>.setCell (by simp) _)
 | exact (hK0.setCell (by simp) _ |>.setCell (by simp) _ |>.setCell (by simp) _ |>.setCell (by simp) _).drew
theorem split_true (ng : Bool) (h ex kept P Q1 : Int) (m : Nat) (hm : m < 62) (od hf rt : Bool) (hk : h / 2 ^ (m + 1) = kept) (hP : wrap64 (2 ^ m) = P) (hQ : IntKind.i64.wrap (P - 1) = Q1) (c1 c2 c3 : Int) (hc1 : bits .and .i64 kept 1 = c1) (hc2 : bits .and .i64 h P = c2) (hc3 : bits .and .i64 h Q1 = c3) (hod : (c1 == 1) = od) (hhf : (c2 != 0) = hf) (hrt : rt = true) (w : World) : Calls Tryz.prog 126 #[.agg #[.bool ng,.int .i64 h,.int .i64 ex,.bool true],.int .i64 ((m : Int) + 1)] w fun e w' => e = .returned (.tuple #[.int .i64 kept,.agg #[.bool ng,.bool od,.bool hf,.bool rt]]) ∧ Kept w w':=by
 have hK : Kept w ((w.alloc (.cells #[.bool ng,.int .i64 h,.int .i64 ex,.bool true] 117)).alloc (.cells #[.bool false,.bool false,.bool false,.bool false] 142)):=((Kept.refl w).alloc _ _).alloc _ _
 subst hrt
 go_enter Tryz.func126,Tryz.ntmps126
 go_wp2
 go_quiet (fail)
 go_wp2
 obtain ⟨W0,hW0⟩ : ∃ W0,((w.alloc (.cells #[.bool ng,.int .i64 h,.int .i64 ex,.bool true] 117)).alloc (.cells #[.bool false,.bool false,.bool false,.bool false] 142)).drewN nq = W0:=⟨_,rfl⟩
 have q0 : W0.cell? ⟨w.heap.size,0,none⟩ = some (.bool ng):=by rw [← hW0]; simp [go_sem]
 have q1 : W0.cell? ⟨w.heap.size,1,none⟩ = some (.int .i64 h):=by rw [← hW0]; simp [go_sem]
 have q3 : W0.cell? ⟨w.heap.size,3,none⟩ = some (.bool true):=by rw [← hW0]; simp [go_sem]
 have s0 : W0.cell? ⟨w.heap.size + 1,0,none⟩ = some (.bool false):=by rw [← hW0]; simp [go_sem]
 have s1 : W0.cell? ⟨w.heap.size + 1,1,none⟩ = some (.bool false):=by rw [← hW0]; simp [go_sem]
 have s2 : W0.cell? ⟨w.heap.size + 1,2,none⟩ = some (.bool false):=by rw [← hW0]; simp [go_sem]
 have s3 : W0.cell? ⟨w.heap.size + 1,3,none⟩ = some (.bool false):=by rw [← hW0]; simp [go_sem]
 have sf : ∀ o,W0.frozen? ⟨w.heap.size + 1,o,none⟩ = false:=fun o => by rw [← hW0]; simp [go_sem]
 have hK0 : Kept w W0:=by rw [← hW0]; exact hK.drewN nq
 rw [hW0]
 clear hW0 hK
 refine wp_region_held_drew (S:=fun u => u.cell? ⟨w.heap.size,0,none⟩ = some (.bool ng) ∧ u.cell? ⟨w.heap.size,1,none⟩ = some (.int .i64 h) ∧ u.cell? ⟨w.heap.size,3,none⟩ = some (.bool true)) (by kernel_rfl) ⟨q0,q1,q3⟩ (fun hHeld => ?_)
 refine tk (i:=0) (v:=?_) rfl ?_
 try simp only [Act.put,zA,zB,zC,zD,zE,zF]
 refine tk (i:=1) (v:=?_) rfl ?_
 try simp only [Act.put,zA,zB,zC,zD,zE,zF]
 refine tk (i:=2) (v:=?_) rfl ?_
 try simp only [Act.put,zA,zB,zC,zD,zE,zF]
 refine tk (i:=3) (v:=?_) rfl ?_
 try simp only [Act.put,zA,zB,zC,zD,zE,zF]
 refine tk (i:=4) (v:=?_) rfl ?_
 try simp only [Act.put,zA,zB,zC,zD,zE,zF]
 refine tk (i:=5) (v:=?_) rfl ?_
 try simp only [Act.put,zA,zB,zC,zD,zE,zF]
 refine tk (i:=6) (v:=?_) rfl ?_
 try simp only [Act.put,zA,zB,zC,zD,zE,zF]
 refine tk (i:=7) (v:=?_) rfl ?_
 try simp only [Act.put,zA,zB,zC,zD,zE,zF]
 refine tk (i:=8) (v:=?_) rfl ?_
 try simp only [Act.put,zA,zB,zC,zD,zE,zF]
 refine tk (i:=9) (v:=?_) rfl ?_
 try simp only [Act.put,zA,zB,zC,zD,zE,zF]
 refine tk (i:=10) (v:=?_) rfl ?_
 try simp only [Act.put,zA,zB,zC,zD,zE,zF]
 refine tk (i:=11) (v:=?_) rfl ?_
 try simp only [Act.put,zA,zB,zC,zD,zE,zF]
 refine tk (i:=12) (v:=?_) rfl ?_
 try simp only [Act.put,zA,zB,zC,zD,zE,zF]
 refine tk (i:=13) (v:=?_) rfl ?_
 try simp only [Act.put,zA,zB,zC,zD,zE,zF]
 refine wpAnyH_take (i:=14) (v:=undef) rfl (by kernel_rfl) (by kernel_rfl) (by kernel_rfl) (fun _ _ _ h => h) (Or.inr ⟨by rfl,rfl⟩) (by assumption) ?_
 try simp only [Act.put,zA,zB,zC,zD,zE,zF]
 refine wpAnyH_take (i:=15) (v:=undef) rfl (by kernel_rfl) (by kernel_rfl) (by kernel_rfl) (fun _ _ _ h => h) (Or.inr ⟨by rfl,rfl⟩) (by assumption) ?_
 try simp only [Act.put,zA,zB,zC,zD,zE,zF]
 refine wpAnyH_take (i:=16) (v:=undef) rfl (by kernel_rfl) (by kernel_rfl) (by kernel_rfl) (fun _ _ _ h => h) (Or.inr ⟨by rfl,rfl⟩) (by assumption) ?_
 try simp only [Act.put,zA,zB,zC,zD,zE,zF]
 refine wpAnyH_take (i:=17) (v:=undef) rfl (by kernel_rfl) (by kernel_rfl) (by kernel_rfl) (fun _ _ _ h => h) (Or.inr ⟨by rfl,rfl⟩) (by assumption) ?_
 try simp only [Act.put,zA,zB,zC,zD,zE,zF]
 refine wpAnyH_take (i:=18) (v:=undef) rfl (by kernel_rfl) (by kernel_rfl) (by kernel_rfl) (fun _ _ _ h => h) (Or.inr ⟨by rfl,rfl⟩) (by assumption) ?_
 try simp only [Act.put,zA,zB,zC,zD,zE,zF]
 refine wpAnyH_take (i:=19) (v:=undef) rfl (by kernel_rfl) (by kernel_rfl) (by kernel_rfl) (fun _ _ _ h => h) (Or.inr ⟨by rfl,rfl⟩) (by assumption) ?_
 try simp only [Act.put,zA,zB,zC,zD,zE,zF]
 refine tk (i:=20) (v:=?_) rfl ?_
 try simp only [Act.put,zA,zB,zC,zD,zE,zF]
 refine tk (i:=21) (v:=?_) rfl ?_
 try simp only [Act.put,zA,zB,zC,zD,zE,zF]
 refine tk (i:=22) (v:=?_) rfl ?_
 try simp only [Act.put,zA,zB,zC,zD,zE,zF]
 refine wpAnyH_ready (rs:=[23]) (by kernel_rfl) (by simp) ?_
 refine AllReadyH.cons rfl (fun K hK9 => ?_) AllReadyH.nil
 go_simp
 refine hK9.out _ _ ⟨(set4 _ _ _ _ (by omega) _ _ _ _).trans q0,(set4 _ _ _ _ (by omega) _ _ _ _).trans q1,(set4 _ _ _ _ (by omega) _ _ _ _).trans q3⟩ (fun hHeld3 => ?_)
 clear hK9 K hHeld
 refine wpAnyH_done (by kernel_rfl) ?_ _
 clear hHeld3
 go_wp2
 refine bodyPost_ret (v:=.tuple #[.int .i64 kept,.agg #[.bool ng,.bool od,.bool hf,.bool true]]) (by simp [results,Tryz.results126,go_sem,s0,s1,s2,s3]) rfl ⟨rfl,?_⟩
 first
 | exact (hK0.drew.setCell (by simp) _ |>.setCell (by simp) _ |>.setCell (by simp) _ |>.setCell (by simp) _)
 | exact (hK0.setCell (by simp) _ |>.setCell (by simp) _ |>.setCell (by simp) _ |>.setCell (by simp) _).drew
theorem away_1 (ng od hf rt : Bool) (w : World) : Calls Tryz.prog 146 #[.agg #[.bool ng,.bool od,.bool hf,.bool rt]] w fun e w' => e = .returned (.bool (hf && (rt || od))) ∧ Kept w w':=by
 cases ng <;> cases od <;> cases hf <;> cases rt
 all_goals
  go_enter Tryz.func146,Tryz.ntmps146
  go_wp2
  go_ret
  exact ⟨rfl,(Kept.refl _).alloc _ _⟩
theorem away_2 (ng od hf rt : Bool) (w : World) : Calls Tryz.prog 147 #[.agg #[.bool ng,.bool od,.bool hf,.bool rt]] w fun e w' => e = .returned (.bool (ng && (hf || rt))) ∧ Kept w w':=by
 cases ng <;> cases od <;> cases hf <;> cases rt
 all_goals
  go_enter Tryz.func147,Tryz.ntmps147
  go_wp2
  go_ret
  exact ⟨rfl,(Kept.refl _).alloc _ _⟩
theorem away_3 (ng od hf rt : Bool) (w : World) : Calls Tryz.prog 148 #[.agg #[.bool ng,.bool od,.bool hf,.bool rt]] w fun e w' => e = .returned (.bool (!ng && (hf || rt))) ∧ Kept w w':=by
 cases ng <;> cases od <;> cases hf <;> cases rt
 all_goals
  go_enter Tryz.func148,Tryz.ntmps148
  go_wp2
  go_ret
  exact ⟨rfl,(Kept.refl _).alloc _ _⟩
end Go.Proofs.YtnniljhdcplkgaaGreatDoor
