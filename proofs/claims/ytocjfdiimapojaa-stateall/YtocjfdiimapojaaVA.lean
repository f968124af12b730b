/- Package state: what gives up,and the small tests. -/
import Derived.Test.YtocjfdiimapojaaNB
import Derived.Test.YtocjfdiimapojaaTD
namespace Go.Proofs.Ytocjfdiimapojaa
open Go.ChangeShapes Go.WideShapes Go.ChangeAt Go.RowKit
set_option maxHeartbeats 16000000
set_option maxRecDepth 100000
set_option linter.unusedVariables false
set_option linter.unusedSimpArgs false
/-- A call that gives up with a fault. -/
abbrev PN (e p : Int) : Ending:=.panicked [{ v:=.iface 59 (.agg #[.int .i64 e,.int .i64 p]),recovered:=false }]
theorem want_ok (e p : Int) (w : World) : Calls Try.prog 28 #[.bool true,.agg #[.int .i64 e,.int .i64 p]] w fun r w' => r = .returned (.tuple #[]) ∧ Kept w w':=by
 go_enter Try.func28,Try.ntmps28
 go_wp2
 first | go_end0 | go_ret | skip
 exact ⟨rfl,(Kept.refl _).alloc _ _⟩
theorem want_no (e p : Int) (w : World) : Calls Try.prog 28 #[.bool false,.agg #[.int .i64 e,.int .i64 p]] w fun r w' => r = PN e p ∧ Kept w w':=by
 go_enter Try.func28,Try.ntmps28
 go_wp2
 exact ⟨rfl,rfl,(Kept.refl _).alloc _ _⟩
theorem wantForm_ok (w : World) : Calls Try.prog 43 #[.bool true] w fun r w' => r = .returned (.tuple #[]) ∧ Kept w w':=by
 go_enter Try.func43,Try.ntmps43
 go_wp2_with (go_at_call 28; refine (want_ok _ _ _).mono ?_; rintro e w1 ⟨rfl,hk1⟩)
 first | go_end0 | go_ret | skip
 exact ⟨rfl,hk1⟩
theorem wantForm_no (w : World) : Calls Try.prog 43 #[.bool false] w fun r w' => r = PN 43 0 ∧ Kept w w':=by
 go_enter Try.func43,Try.ntmps43
 go_wp2_with (go_at_call 28; refine (want_no _ _ _).mono ?_; rintro e w1 ⟨rfl,hk1⟩)
 exact ⟨rfl,rfl,hk1⟩
theorem isStep_any (n : Int) (w : World) : Calls Try.prog 44 #[.int .i64 n] w fun r w' => r = .returned (.bool (stepB n)) ∧ Kept w w':=by
 unfold stepB
 by_cases h1 : 0 ≤ n
 ·by_cases h2 : n ≤ 1099511627776
  ·go_enter Try.func44,Try.ntmps44
   go_wp2
   go_ret
   exact ⟨by simp [h1,h2],Kept.refl _⟩
  ·go_enter Try.func44,Try.ntmps44
   go_wp2
   go_ret
   exact ⟨by simp [h1,h2],Kept.refl _⟩
 ·go_enter Try.func44,Try.ntmps44
  go_wp2
  go_ret
  exact ⟨by simp; omega,Kept.refl _⟩
theorem isAny_any (n : Int) (w : World) : Calls Try.prog 51 #[.int .i64 n] w fun r w' => r = .returned (.bool true) ∧ Kept w w':=by
 go_enter Try.func51,Try.ntmps51
 go_wp2
 go_ret
 exact ⟨rfl,Kept.refl _⟩
theorem atMost_any (n : Int) (w : World) : Calls Try.prog 53 #[.int .i64 n] w fun r w' => r = .returned (.func (.func 65) #[] #[.pointer (some ⟨w.heap.size,0,none⟩)]) ∧ w' = w.alloc (.cells #[.int .i64 n] 3):=by
 have hmf : ∀ (fn : Fn) (first cap : Array Value) (w : World),(Instr.makeFunc fn first cap).run Try.prog w = .ok (.func fn first cap) w:=fun _ _ _ _ => rfl
 go_enter Try.func53,Try.ntmps53
 go_wp2
 go_ret
 exact ⟨rfl,rfl⟩
theorem atMost1_any (n m : Int) (B : Nat) (w : World) (h : w.cell? ⟨B,0,none⟩ = some (.int .i64 m)) : Calls Try.prog 65 #[.int .i64 n,.pointer (some ⟨B,0,none⟩)] w fun r w' => r = .returned (.bool (decide (n ≤ m))) ∧ Kept w w':=by
 go_enter Try.func65,Try.ntmps65
 go_wp2
 go_ret
 exact ⟨rfl,Kept.refl _⟩
theorem rmat1_any (n : Int) (w : World) : Calls Try.prog 74 #[.int .i64 n] w fun r w' => r = .returned (.bool (val 0 n)) ∧ Kept w w':=by
 go_enter Try.func74,Try.ntmps74
 go_wp2_with (go_at_call 69; refine (valid_any _ _ _).mono ?_; rintro e w1 ⟨rfl,rfl⟩)
 go_ret
 exact ⟨rfl,Kept.refl _⟩
theorem rmat2_any (n : Int) (w : World) : Calls Try.prog 75 #[.int .i64 n] w fun r w' => r = .returned (.bool (decide (n > 0))) ∧ Kept w w':=by
 go_enter Try.func75,Try.ntmps75
 go_wp2
 go_ret
 exact ⟨rfl,Kept.refl _⟩
theorem rmat3_any (c r n : Int) (B D : Nat) (w : World) (h : w.cell? ⟨B,0,none⟩ = some (.int .i64 r)) (h2 : w.cell? ⟨D,0,none⟩ = some (.int .i64 n)) : Calls Try.prog 76 #[.int .i64 c,.pointer (some ⟨B,0,none⟩),.pointer (some ⟨D,0,none⟩)] w fun e w' => e = .returned (.bool (ckS r c n == 0)) ∧ Kept w w':=by
 go_enter Try.func76,Try.ntmps76
 go_wp2_with (go_at_call 67; refine (checkShape_any _ _ _ _).mono ?_; rintro e w1 ⟨rfl,hk1⟩)
 go_ret
 exact ⟨rfl,hk1⟩
theorem caught_nil (w : World) : Calls Try.prog 24 #[.nilIface] w fun r w' => r = .returned (.agg #[.int .i64 0,.int .i64 0]) ∧ Kept w w':=by
 go_enter Try.func24,Try.ntmps24
 go_wp2
 refine bodyPost_ret (v:=.agg #[.int .i64 0,.int .i64 0]) (by simp [results,Try.results24,go_sem]) rfl ⟨rfl,?_⟩
 exact (Kept.refl _).alloc _ _
theorem caught_fault (e p : Int) (w : World) : Calls Try.prog 24 #[.iface 59 (.agg #[.int .i64 e,.int .i64 p])] w fun r w' => r = .returned (.agg #[.int .i64 e,.int .i64 p]) ∧ Kept w w':=by
 have hta : ∀ w : World,(Instr.typeAssert (.iface 59 (.agg #[.int .i64 e,.int .i64 p])) 20 59 false).run Try.prog w = .ok (.agg #[.int .i64 e,.int .i64 p]) w:=fun w => by kernel_rfl
 go_enter Try.func24,Try.ntmps24
 go_wp2
 refine bodyPost_ret (v:=.agg #[.int .i64 e,.int .i64 p]) (by simp [results,Try.results24,go_sem]) rfl ⟨rfl,?_⟩
 exact (Kept.refl _).alloc _ _
end Go.Proofs.Ytocjfdiimapojaa
