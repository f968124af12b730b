/- round at any lead,in one walk; the way is a function of any number. The ring's laws by values. The ring's laws by values; the laws' own num. The walk of the statement on the ring. -/
import Derived.Test.YtnniljhdcplkgaaGreatDoorWr07
import Derived.Deep.RegionHeld
import Derived.Test.YtnniljhdcplkgaaGreatDoorWr18
import Derived.Test.YtnniljhdcplkgaaGreatDoorWr25
import Derived.Test.YtnniljhdcplkgaaGreatDoorWr24
namespace Go.Proofs.YtnniljhdcplkgaaGreatDoor
open Go.ChangeShapes Go.WideShapes Go.ChangeAt Go.RowKit
set_option maxHeartbeats 16000000
set_option maxRecDepth 100000
set_option linter.unusedVariables false
set_option linter.unusedSimpArgs false
theorem laidn {w X u : World} (B : Nat) (vs : Array Value) (t : TypeId) (hB : B = w.heap.size) (hX : Kept (w.alloc (.cells vs t)) X) (k : Kept X u) (i : Nat) : u.cell? ⟨B,i,none⟩ = (w.alloc (.cells vs t)).cell? ⟨B,i,none⟩:=by
 subst hB
 exact (hX.trans k).below.cell (p:=⟨w.heap.size,i,none⟩) (by simp)
theorem roundg_all (K : Nat) (hcall : ∀ a w, (callFunc K #[a]).run Tryz.prog w = .ok (.enter K #[a]) w) (n pr le fi h ex Bh s1 s2 un kept kp1 k2 b : Int) (m : Nat) (ng od hf rt rs aw sb ok : Bool) (hh0 : (h == 0) = false) (hk0 : 0 ≤ kept ∧ 0 < kp1) (hk1 : IntKind.i64.wrap (kept + 1) = kp1) (hk2 : (if aw = true then kp1 else kept) = k2) (hsb : (ng && decide (0 < k2)) = sb) (z0 : IntKind.u64.wrap h = h) (z1 : IntKind.i64.wrap (ex + Bh) = s1) (z2 : IntKind.i64.wrap (s1 - pr) = s2) (z3 : max s2 le = un) (z4 : IntKind.i64.wrap (un - ex) = (m : Int) + 1) (w : World)
    (KL : Hid (∀ u, Calls Tryz.prog 119 #[.int .u64 h] u fun e w' => e = .returned (.int .i64 Bh) ∧ u = w'))
    (KS : Hid (∀ u, Calls Tryz.prog 126 #[.agg #[.bool ng, .int .i64 h, .int .i64 ex, .bool rs], .int .i64 ((m : Int) + 1)] u fun e w' => e = .returned (.tuple #[.int .i64 kept, .agg #[.bool ng, .bool od, .bool hf, .bool rt]]) ∧ Kept u w'))
    (KA : Hid (∀ u, Calls Tryz.prog K #[.agg #[.bool ng, .bool od, .bool hf, .bool rt]] u fun e w' => e = .returned (.bool aw) ∧ Kept u w'))
    (KJ : Hid (∀ u, Kept w u → Calls Tryz.prog 127 #[.bool sb, .int .i64 k2, .int .i64 un, .int .i64 n] u fun e w' => e = .returned (if ok = true then .tuple #[.int .i64 b, .bool true] else .tuple #[.int .i64 0, .bool false]) ∧ Kept u w'))
    (KB : Hid (ok = false → ∀ u, Calls Tryz.prog 128 #[.agg #[.int .i64 n, .int .i64 pr, .int .i64 le, .int .i64 fi, .func (.func K) #[] #[]], .bool ng] u fun e w' => e = .returned (.int .i64 b) ∧ Kept u w')) :
    Calls Tryz.prog 100 #[.agg #[.int .i64 n, .int .i64 pr, .int .i64 le, .int .i64 fi, .func (.func K) #[] #[]], .agg #[.bool ng, .int .i64 h, .int .i64 ex, .bool rs]] w fun e w' => e = .returned (.tuple #[.int .i64 b, .bool (if ok = true then (hf || rt) else true)]) ∧ Kept w w' := by
  obtain ⟨X, hX⟩ : ∃ X, X = (w.alloc (.cells #[.int .i64 n, .int .i64 pr, .int .i64 le, .int .i64 fi, .func (.func K) #[] #[]] 112)).alloc (.cells #[.bool ng, .int .i64 h, .int .i64 ex, .bool rs] 117) := ⟨_, rfl⟩
  have hK : Kept w X := by rw [hX]; exact ((Kept.refl w).alloc _ _).alloc _ _
  have HS : Hid (∀ u, Kept X u → Kept X u ∧ u.cell? ⟨w.heap.size, 0, none⟩ = some (.int .i64 n) ∧ u.cell? ⟨w.heap.size, 1, none⟩ = some (.int .i64 pr) ∧ u.cell? ⟨w.heap.size, 2, none⟩ = some (.int .i64 le) ∧ u.cell? ⟨w.heap.size, 3, none⟩ = some (.int .i64 fi) ∧ u.cell? ⟨w.heap.size, 4, none⟩ = some (.func (.func K) #[] #[]) ∧ u.cell? ⟨w.heap.size + 1, 0, none⟩ = some (.bool ng) ∧ u.cell? ⟨w.heap.size + 1, 1, none⟩ = some (.int .i64 h) ∧ u.cell? ⟨w.heap.size + 1, 2, none⟩ = some (.int .i64 ex) ∧ u.cell? ⟨w.heap.size + 1, 3, none⟩ = some (.bool rs)) := fun u k => by
    have h5 := laidn (w := w) (X := X) (u := u) w.heap.size #[.int .i64 n, .int .i64 pr, .int .i64 le, .int .i64 fi, .func (.func K) #[] #[]] 112 rfl (by rw [hX]; exact (Kept.refl _).alloc _ _) k
    have h4 := laidn (w := w.alloc (.cells #[.int .i64 n, .int .i64 pr, .int .i64 le, .int .i64 fi, .func (.func K) #[] #[]] 112)) (X := X) (u := u) (w.heap.size + 1) #[.bool ng, .int .i64 h, .int .i64 ex, .bool rs] 117 (by simp) (by rw [hX]; exact Kept.refl _) k
    exact ⟨k, (h5 0).trans (by simp [go_sem]), (h5 1).trans (by simp [go_sem]), (h5 2).trans (by simp [go_sem]), (h5 3).trans (by simp [go_sem]), (h5 4).trans (by simp [go_sem]), (h4 0).trans (by simp [go_sem]), (h4 1).trans (by simp [go_sem]), (h4 2).trans (by simp [go_sem]), (h4 3).trans (by simp [go_sem])⟩
  have HK2 : Hid ((if aw = true then kp1 else kept) = k2) := hk2
  have HSB : Hid ((ng && decide (0 < k2)) = sb) := hsb
  clear hk2 hsb hk0
  have kd := Kept.refl X
  obtain ⟨-, x0, x1, x2, x3, x4, y0, y1, y2, y3⟩ := HS.out _ kd
  go_enter Tryz.func100, Tryz.ntmps100
  go_upto_region 1 with fail
  rw [← hX]
  clear hX
  go_upto_region 3 with fail
  clear x0 x1 x2 x3 x4 y0 y1 y2 y3
  replace kd := kd.drew
  go_region_held (fun u => Kept X u ∧ u.cell? ⟨w.heap.size, 0, none⟩ = some (.int .i64 n) ∧ u.cell? ⟨w.heap.size, 1, none⟩ = some (.int .i64 pr) ∧ u.cell? ⟨w.heap.size, 2, none⟩ = some (.int .i64 le) ∧ u.cell? ⟨w.heap.size, 3, none⟩ = some (.int .i64 fi) ∧ u.cell? ⟨w.heap.size, 4, none⟩ = some (.func (.func K) #[] #[]) ∧ u.cell? ⟨w.heap.size + 1, 0, none⟩ = some (.bool ng) ∧ u.cell? ⟨w.heap.size + 1, 1, none⟩ = some (.int .i64 h) ∧ u.cell? ⟨w.heap.size + 1, 2, none⟩ = some (.int .i64 ex) ∧ u.cell? ⟨w.heap.size + 1, 3, none⟩ = some (.bool rs)) (first | assumption | exact HS.out _ kd | exact HS.out _ (by assumption)) (first | (go_at_call 119; refine (KL.out _).mono ?_; rintro e w1 ⟨rfl, rfl⟩))
  obtain ⟨-, x0, x1, x2, x3, x4, y0, y1, y2, y3⟩ := HS.out _ kd
  go_wp2_with fail
  refine (KS.out _).mono ?_
  rintro e w2 ⟨rfl, k2'⟩
  replace kd := kd.trans k2'
  clear x0 x1 x2 x3 x4 y0 y1 y2 y3 k2' KS KL
  go_upto_region 5 with fail
  obtain ⟨X2, hX2⟩ : ∃ Y, Y = w2.alloc (.cells #[.bool ng, .bool od, .bool hf, .bool rt] 142) := ⟨_, rfl⟩
  obtain ⟨p8, hp8⟩ : ∃ p, p = w2.heap.size := ⟨_, rfl⟩
  have k22 : Kept w2 X2 := by rw [hX2]; exact (Kept.refl _).alloc _ _
  have HC : Hid (∀ u, Kept X2 u → Kept X2 u ∧ u.cell? ⟨p8, 0, none⟩ = some (.bool ng) ∧ u.cell? ⟨p8, 1, none⟩ = some (.bool od) ∧ u.cell? ⟨p8, 2, none⟩ = some (.bool hf) ∧ u.cell? ⟨p8, 3, none⟩ = some (.bool rt)) := fun u k => by
    have h4 := laidn (w := w2) (X := X2) (u := u) p8 #[.bool ng, .bool od, .bool hf, .bool rt] 142 hp8 (by rw [hX2]; exact Kept.refl _) k
    subst hp8
    exact ⟨k, (h4 0).trans (by simp [go_sem]), (h4 1).trans (by simp [go_sem]), (h4 2).trans (by simp [go_sem]), (h4 3).trans (by simp [go_sem])⟩
  rw [← hX2, ← hp8]
  clear hX2 hp8
  replace kd := kd.trans k22
  have kc := Kept.refl X2
  clear k22
  obtain ⟨-, x0, x1, x2, x3, x4, y0, y1, y2, y3⟩ := HS.out _ kd
  obtain ⟨-, v0, v1, v2, v3⟩ := HC.out _ kc
  go_wp2_with fail
  refine (KA.out _).mono ?_
  rintro e w3 ⟨rfl, k3⟩
  replace kd := kd.trans k3
  replace kc := kc.trans k3
  clear x0 x1 x2 x3 x4 y0 y1 y2 y3 v0 v1 v2 v3 k3 KA
  obtain ⟨-, x0, x1, x2, x3, x4, y0, y1, y2, y3⟩ := HS.out _ kd
  cases ok with
  | false =>
    (cases aw <;> cases ng) <;>
    (first | (obtain rfl : kp1 = k2 := HK2.out) | (obtain rfl : kept = k2 := HK2.out)
     obtain rfl := HSB.out
     simp only [Bool.false_and, Bool.true_and] at KJ
     go_wp2_with fail
     refine (KJ.out _ (hK.trans kd)).mono ?_
     rintro e w4 ⟨rfl, k4⟩
     replace kd := kd.trans k4
     clear x0 x1 x2 x3 x4 y0 y1 y2 y3 k4
     obtain ⟨-, x0, x1, x2, x3, x4, y0, y1, y2, y3⟩ := HS.out _ kd
     go_wp2_with fail
     refine (KB.out (by trivial) _).mono ?_
     rintro e w5 ⟨rfl, k5⟩
     go_wp2_with fail
     go_ret2
     exact ⟨rfl, hK.trans (kd.trans k5)⟩)
  | true =>
    (cases aw <;> cases ng <;> cases hf) <;>
    (first | (obtain rfl : kp1 = k2 := HK2.out) | (obtain rfl : kept = k2 := HK2.out)
     obtain rfl := HSB.out
     simp only [Bool.false_and, Bool.true_and] at KJ
     go_wp2_with fail
     refine (KJ.out _ (hK.trans kd)).mono ?_
     rintro e w4 ⟨rfl, k4⟩
     replace kd := kd.trans k4
     replace kc := (kc.trans k4).drew
     clear x0 x1 x2 x3 x4 y0 y1 y2 y3 k4
     obtain ⟨-, v0, v1, v2, v3⟩ := HC.out _ kc
     go_upto_region 10 with fail
     go_region
     go_wp2_with fail
     go_ret2
     exact ⟨rfl, hK.trans kd.drew⟩)
end Go.Proofs.YtnniljhdcplkgaaGreatDoor

namespace Go.Proofs.YtnniljhdcplkgaaGreatDoor
open Go.ChangeShapes Go.WideShapes Go.ChangeAt Go.RowKit
set_option maxHeartbeats 16000000
set_option maxRecDepth 100000
set_option linter.unusedVariables false
set_option linter.unusedSimpArgs false
theorem Lies.mono {s : Int} {B C : Nat} {a : Nm} (h : Lies s B a) (hBC : B ≤ C) : Lies s C a:=⟨h.ok,h.low,Nat.lt_of_lt_of_le h.lt (Nat.pow_le_pow_right (by decide) hBC)⟩
theorem frm_cfm (n : Bool) (v : Nat) (y : Int) : frm n v y = cfm (sg n (v : Int)) y:=by
 by_cases h : v = 0
 ·subst h
  rw [show sg n ((0 : Nat) : Int) = 0 by cases n <;> rfl,cfm_zero]
  simp [frm]
 ·have hsg:=sg_neg n (v : Int) (by omega)
  unfold cfm
  rw [hsg.1,hsg.2,Int.toNat_natCast]
end Go.Proofs.YtnniljhdcplkgaaGreatDoor

namespace Go.Proofs.YtnniljhdcplkgaaGreatDoor
open Go.ChangeShapes Go.WideShapes Go.ChangeAt Go.RowKit
set_option maxHeartbeats 16000000
set_option maxRecDepth 100000
set_option linter.unusedVariables false
set_option linter.unusedSimpArgs false
/-! ### Calls whose numbers lie somewhere -/
end Go.Proofs.YtnniljhdcplkgaaGreatDoor
namespace Go.Proofs.YtnniljhdcplkgaaGreatDoor
open Go.ChangeShapes Go.WideShapes Go.ChangeAt Go.RowKit
set_option maxHeartbeats 16000000
set_option maxRecDepth 100000
set_option linter.unusedVariables false
set_option linter.unusedSimpArgs false
end Go.Proofs.YtnniljhdcplkgaaGreatDoor
