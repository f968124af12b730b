/- Where roundingOf refuses: a width,a way,a number that is none; Round,Quot,Root with it. The walks of cmp.Compare of ints,of exact's below and take of one digit. The walks of exact's Mul where the product is too long,and of Cmp of numbers with two signs. -/
import Derived.Test.YtnniljhdcplkgaaGreatDoorWr13
import Derived.Test.YtnniljhdcplkgaaGreatDoorWr16
import Derived.Test.YtnniljhdcplkgaaGreatDoorWr11
import Derived.BigRegion
namespace Go.Proofs.YtnniljhdcplkgaaGreatDoor
open Go.ChangeShapes Go.WideShapes Go.ChangeAt Go.RowKit
set_option maxHeartbeats 16000000
set_option maxRecDepth 100000
set_option linter.unusedVariables false
set_option linter.unusedSimpArgs false
end Go.Proofs.YtnniljhdcplkgaaGreatDoor

namespace Go.Proofs.YtnniljhdcplkgaaGreatDoor
open Go.ChangeShapes Go.WideShapes Go.ChangeAt Go.RowKit
set_option maxHeartbeats 16000000
set_option maxRecDepth 100000
set_option linter.unusedVariables false
set_option linter.unusedSimpArgs false
set_option linter.unnecessarySimpa false
end Go.Proofs.YtnniljhdcplkgaaGreatDoor

namespace Go.Proofs.YtnniljhdcplkgaaGreatDoor
open Go.ChangeShapes Go.WideShapes Go.ChangeAt Go.RowKit
set_option maxHeartbeats 16000000
set_option maxRecDepth 100000
set_option linter.unusedVariables false
set_option linter.unusedSimpArgs false
theorem product_far (n1 n2 : Bool) (a1 a2 : Option Addr) (l1 c1 l2 c2 : Nat) (x1 x2 : Int) (b1 b2 : Nat) (hx1 : -1048576 ≤ x1 ∧ x1 ≤ 1048576) (hx2 : -1048576 ≤ x2 ∧ x2 ≤ 1048576) (hb1 : b1 ≤ 60000) (hb2 : b2 ≤ 60000) (hno : 60000 < (b1 : Int) + b2 - 1 ∨ x1 + x2 < -1048576 ∨ 1048576 < x1 + x2) (w : World)
  (K1 : Hid (∀ u,Kept w u → Calls Tryz.prog 112 #[.slice a1 l1 c1] u fun e w' => e = .returned (.int .i64 (b1 : Int)) ∧ u = w')) (K2 : Hid (∀ u,Kept w u → Calls Tryz.prog 112 #[.slice a2 l2 c2] u fun e w' => e = .returned (.int .i64 (b2 : Int)) ∧ u = w')) :
  Calls Tryz.prog 108 #[.agg #[.bool n1,.slice a1 l1 c1,.int .i64 x1],.agg #[.bool n2,.slice a2 l2 c2,.int .i64 x2]] w fun e w' => e = .panicked gaveUp ∧ Kept w w':=by
 have hK : Kept w (((w.alloc (.cells #[.bool n1,.slice a1 l1 c1,.int .i64 x1] 43)).alloc (.cells #[.bool n2,.slice a2 l2 c2,.int .i64 x2] 43)).alloc nilNum):=(((Kept.refl w).alloc _ _).alloc _ _).alloc _ _
 have z1 : IntKind.i64.wrap ((b1 : Int) + (b2 : Int)) = (b1 : Int) + (b2 : Int):=by rw [wrap_i64]; omega
 have z2 : IntKind.i64.wrap ((b1 : Int) + (b2 : Int) - 1) = (b1 : Int) + (b2 : Int) - 1:=by rw [wrap_i64]; omega
 have z3 : IntKind.i64.wrap (x1 + x2) = x1 + x2:=by rw [wrap_i64]; omega
 have hS : ∀ u,Kept (((w.alloc (.cells #[.bool n1,.slice a1 l1 c1,.int .i64 x1] 43)).alloc (.cells #[.bool n2,.slice a2 l2 c2,.int .i64 x2] 43)).alloc nilNum) u → (u.cell? ⟨w.heap.size,1,none⟩ = some (.slice a1 l1 c1) ∧ u.cell? ⟨w.heap.size,2,none⟩ = some (.int .i64 x1)) ∧ u.cell? ⟨w.heap.size + 1,1,none⟩ = some (.slice a2 l2 c2) ∧ u.cell? ⟨w.heap.size + 1,2,none⟩ = some (.int .i64 x2):=fun u k => ⟨⟨(k.below.cell (p:=⟨w.heap.size,1,none⟩) (by simp <;> omega)).trans (by simp [go_sem]),(k.below.cell (p:=⟨w.heap.size,2,none⟩) (by simp <;> omega)).trans (by simp [go_sem])⟩,(k.below.cell (p:=⟨w.heap.size + 1,1,none⟩) (by simp <;> omega)).trans (by simp [go_sem]),(k.below.cell (p:=⟨w.heap.size + 1,2,none⟩) (by simp <;> omega)).trans (by simp [go_sem])⟩
 have HS:=hS _ (Kept.refl _).drew
 have HSS : Hid (∀ u,Kept (((w.alloc (.cells #[.bool n1,.slice a1 l1 c1,.int .i64 x1] 43)).alloc (.cells #[.bool n2,.slice a2 l2 c2,.int .i64 x2] 43)).alloc nilNum) u → (u.cell? ⟨w.heap.size,1,none⟩ = some (.slice a1 l1 c1) ∧ u.cell? ⟨w.heap.size,2,none⟩ = some (.int .i64 x1)) ∧ u.cell? ⟨w.heap.size + 1,1,none⟩ = some (.slice a2 l2 c2) ∧ u.cell? ⟨w.heap.size + 1,2,none⟩ = some (.int .i64 x2)):=hS
 clear hS
 go_enter Tryz.func108,Tryz.ntmps108
 go_wp2_with fail
 refine wp_region_held_drew (S:=fun u => (u.cell? ⟨w.heap.size,1,none⟩ = some (.slice a1 l1 c1) ∧ u.cell? ⟨w.heap.size,2,none⟩ = some (.int .i64 x1)) ∧ u.cell? ⟨w.heap.size + 1,1,none⟩ = some (.slice a2 l2 c2) ∧ u.cell? ⟨w.heap.size + 1,2,none⟩ = some (.int .i64 x2)) (by kernel_rfl) HS (fun hHeld => ?_)
 refine tk (i:=0) (v:=?_) rfl ?_
 simp only [Act.put,zA,zB,zC,zD,zE,zF]
 refine tk (i:=1) (v:=?_) rfl ?_
 simp only [Act.put,zA,zB,zC,zD,zE,zF]
 refine tk (i:=3) (v:=?_) rfl ?_
 simp only [Act.put,zA,zB,zC,zD,zE,zF]
 refine tk (i:=4) (v:=?_) rfl ?_
 simp only [Act.put,zA,zB,zC,zD,zE,zF]
 refine tk (i:=8) (v:=?_) rfl ?_
 simp only [Act.put,zA,zB,zC,zD,zE,zF]
 refine tk (i:=9) (v:=?_) rfl ?_
 simp only [Act.put,zA,zB,zC,zD,zE,zF]
 refine tk (i:=10) (v:=?_) rfl ?_
 simp only [Act.put,zA,zB,zC,zD,zE,zF]
 refine tk (i:=11) (v:=?_) rfl ?_
 simp only [Act.put,zA,zB,zC,zD,zE,zF]
 refine tk (i:=12) (v:=?_) rfl ?_
 simp only [Act.put,zA,zB,zC,zD,zE,zF]
 refine wpAnyH_ready (rs:=[2]) (by kernel_rfl) (by simp) ?_
 refine AllReadyH.cons rfl (fun K hK9 => ?_) AllReadyH.nil
 go_simp
 go_wp2_with fail
 refine (K1.out _ hK.drew).mono ?_
 rintro e u1 ⟨rfl,rfl⟩
 refine hK9.out _ _ HS (fun hHeld2 => ?_)
 clear hK9 K
 refine wpAnyH_ready (rs:=[5]) (by kernel_rfl) (by simp) ?_
 refine AllReadyH.cons rfl (fun K hK9 => ?_) AllReadyH.nil
 go_simp
 go_wp2_with fail
 refine (K2.out _ hK.drew).mono ?_
 rintro e u1 ⟨rfl,rfl⟩
 refine hK9.out _ _ HS (fun hHeld3 => ?_)
 clear hK9 K
 refine tk (i:=6) (v:=?_) rfl ?_
 simp only [Act.put,zA,zB,zC,zD,zE,zF]
 refine tk (i:=7) (v:=?_) rfl ?_
 simp only [Act.put,zA,zB,zC,zD,zE,zF]
 refine wpAnyH_ready (rs:=[13]) (by kernel_rfl) (by simp) ?_
 refine AllReadyH.cons rfl (fun K hK9 => ?_) AllReadyH.nil
 go_simp
 go_wp2_with fail
 refine (fit_no _ _ hno _).mono ?_
 rintro e u1 ⟨rfl,rfl⟩
 exact ⟨rfl,rfl,hK.drew⟩
end Go.Proofs.YtnniljhdcplkgaaGreatDoor
