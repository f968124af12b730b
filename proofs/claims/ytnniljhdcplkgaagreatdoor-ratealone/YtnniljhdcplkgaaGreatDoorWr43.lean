/- Package rate: what is a schedule. -/
import Derived.Test.YtnniljhdcplkgaaGreatDoorWr42
import Derived.Test.YtnniljhdcplkgaaGreatDoorWr21
namespace Go.Proofs.YtnniljhdcplkgaaGreatDoor
open Go.ChangeShapes Go.WideShapes Go.ChangeAt Go.RowKit
set_option maxHeartbeats 16000000
set_option maxRecDepth 100000
set_option linter.unusedVariables false
set_option linter.unusedSimpArgs false
def cnt (n : Int) : Bool:=decide (0 ≤ n ∧ n ≤ 1099511627776)
theorem isCount_any (n : Int) (w : World) : Calls Tryz.prog 9 #[.int .i64 n] w fun e w' => e = .returned (.bool (cnt n)) ∧ Kept w w':=by
 unfold cnt
 go_enter Tryz.func9,Tryz.ntmps9
 by_cases h0 : 0 ≤ n
 ·by_cases h1 : n ≤ 1099511627776
  ·rw [decide_eq_true ⟨h0,h1⟩]
   go_wp2
   go_ret
   exact ⟨by simp [h0,h1],Kept.refl _⟩
  ·rw [decide_eq_false (fun h => h1 h.2)]
   go_wp2
   go_ret
   exact ⟨by simp [h0,h1],Kept.refl _⟩
 ·rw [decide_eq_false (fun h => h0 h.1)]
  go_wp2
  go_ret
  exact ⟨by simp [h0],Kept.refl _⟩
theorem less_det (b : Int) (h1 : -9223372036854775808 ≤ b) (h2 : b ≤ 9223372036854775807) : ∃ l : Bool,∀ w : World,Calls Tryz.prog 39 #[.int .i64 b,.int .i64 0,.int .i64 64] w fun e w' => e = .returned (.bool l) ∧ Kept w w':=⟨_,fun w => less_any b 0 64 h1 h2 (by decide) (by decide) w⟩
theorem isSize_walk (b : Int) (l : Bool) (KL : Hid (∀ w : World,Calls Tryz.prog 39 #[.int .i64 b,.int .i64 0,.int .i64 64] w fun e w' => e = .returned (.bool l) ∧ Kept w w')) (w : World) : Calls Tryz.prog 20 #[.int .i64 b] w fun e w' => e = .returned (.bool (decide (cls b 64 < 3) && !l)) ∧ Kept w w':=by
 have KC : Hid (∀ v,Calls Tryz.prog 11 #[.int .i64 b,.int .i64 64] v fun e w' => e = .returned (.int .i64 (cls b 64)) ∧ Kept v w'):=fun v => class_any b 64 v
 obtain ⟨c,hc⟩ : ∃ c,cls b 64 = c:=⟨_,rfl⟩
 rw [hc] at KC ⊢
 go_enter Tryz.func20,Tryz.ntmps20
 by_cases h : c < 3
 ·rw [decide_eq_true h]
  go_wp2_with fail
  refine (KC.out _).mono ?_
  rintro e w1 ⟨rfl,k1⟩
  go_wp2_with fail
  refine (KL.out _).mono ?_
  rintro e w2 ⟨rfl,k2⟩
  go_wp2_with fail
  go_ret
  exact ⟨by simp,k1.trans k2⟩
 ·rw [decide_eq_false h]
  go_wp2_with fail
  refine (KC.out _).mono ?_
  rintro e w1 ⟨rfl,k1⟩
  go_wp2_with fail
  go_ret
  exact ⟨by simp,k1⟩
theorem size_det (b : Int) (h1 : -9223372036854775808 ≤ b) (h2 : b ≤ 9223372036854775807) : ∃ z : Bool,(z = true → cls b 64 < 3) ∧ ∀ w : World,Calls Tryz.prog 20 #[.int .i64 b] w fun e w' => e = .returned (.bool z) ∧ Kept w w':=by
 obtain ⟨l,hl⟩:=less_det b h1 h2
 exact ⟨_,fun h => by simp at h; exact h.1,fun w => isSize_walk b l hl w⟩
theorem counts_no (kd ba fa wa ev tt : Int) (b1 b2 b3 : Bool) (hb : (b1 && b2 && b3) = false) (w : World)
  (K1 : Hid (∀ u : World,Calls Tryz.prog 9 #[.int .i64 wa] u fun e w' => e = .returned (.bool b1) ∧ Kept u w'))
  (K2 : Hid (∀ u : World,Calls Tryz.prog 9 #[.int .i64 ev] u fun e w' => e = .returned (.bool b2) ∧ Kept u w'))
  (K3 : Hid (∀ u : World,Calls Tryz.prog 9 #[.int .i64 tt] u fun e w' => e = .returned (.bool b3) ∧ Kept u w')) :
  Calls Tryz.prog 21 #[.agg #[.int .i64 kd,.int .i64 ba,.int .i64 fa,.int .i64 wa,.int .i64 ev,.int .i64 tt]] w fun e w' => e = .returned (.bool false) ∧ Kept w w':=by
 obtain ⟨X,hX⟩ : ∃ X,X = w.alloc (.cells #[.int .i64 kd,.int .i64 ba,.int .i64 fa,.int .i64 wa,.int .i64 ev,.int .i64 tt] 23):=⟨_,rfl⟩
 have hK : Kept w X:=by rw [hX]; exact (Kept.refl w).alloc _ _
 have HS0 : Hid (∀ u,Kept X u → u.cell? ⟨w.heap.size,0,none⟩ = some (.int .i64 kd) ∧ u.cell? ⟨w.heap.size,1,none⟩ = some (.int .i64 ba) ∧ u.cell? ⟨w.heap.size,2,none⟩ = some (.int .i64 fa) ∧ u.cell? ⟨w.heap.size,3,none⟩ = some (.int .i64 wa) ∧ u.cell? ⟨w.heap.size,4,none⟩ = some (.int .i64 ev) ∧ u.cell? ⟨w.heap.size,5,none⟩ = some (.int .i64 tt)):=fun u k => sch_cells w kd ba fa wa ev tt _ X hX u k
 obtain ⟨B0,hB0⟩ : ∃ B,B = w.heap.size:=⟨_,rfl⟩
 rw [← hB0] at HS0
 go_enter Tryz.func21,Tryz.ntmps21
 go_upto_region 1 with fail
 rw [← hX,← hB0]
 have hBX : B0 < X.heap.size:=by rw [hB0,hX]; simp
 clear hX hB0
 obtain ⟨c0,c1,c2,c3,c4,c5⟩:=HS0.out _ (Kept.refl X)
 go_wp2_with fail
 refine (K1.out _).mono ?_
 rintro e w1 ⟨rfl,k1⟩
 clear c0 c1 c2 c3 c4 c5
 obtain ⟨c0,c1,c2,c3,c4,c5⟩:=HS0.out _ k1
 cases b1
 ·go_wp2_with fail
  go_ret
  exact ⟨rfl,hK.trans k1⟩
 ·go_wp2_with fail
  refine (K2.out _).mono ?_
  rintro e w2 ⟨rfl,k2⟩
  clear c0 c1 c2 c3 c4 c5
  obtain ⟨c0,c1,c2,c3,c4,c5⟩:=HS0.out _ (k1.trans k2)
  cases b2
  ·go_wp2_with fail
   go_ret
   exact ⟨rfl,hK.trans (k1.trans k2)⟩
  ·obtain rfl : b3 = false:=by simpa using hb
   go_wp2_with fail
   refine (K3.out _).mono ?_
   rintro e w3 ⟨rfl,k3⟩
   go_wp2_with fail
   go_ret
   exact ⟨rfl,hK.trans (k1.trans (k2.trans k3))⟩
def cok (kd ev tt : Int) : Bool:=if kd = 1 ∨ kd = 3 ∨ kd = 4 then decide (0 < ev) else if kd = 2 then decide (0 < tt) else if kd = 5 then (decide (0 < ev) && decide (ev ≤ 8) && decide (0 < tt)) else true
theorem counts_yes (kd ba fa wa ev tt : Int) (hk : kd = 0 ∨ kd = 1 ∨ kd = 2 ∨ kd = 3 ∨ kd = 4 ∨ kd = 5) (w : World)
  (K1 : Hid (∀ u : World,Calls Tryz.prog 9 #[.int .i64 wa] u fun e w' => e = .returned (.bool true) ∧ Kept u w'))
  (K2 : Hid (∀ u : World,Calls Tryz.prog 9 #[.int .i64 ev] u fun e w' => e = .returned (.bool true) ∧ Kept u w'))
  (K3 : Hid (∀ u : World,Calls Tryz.prog 9 #[.int .i64 tt] u fun e w' => e = .returned (.bool true) ∧ Kept u w')) :
  Calls Tryz.prog 21 #[.agg #[.int .i64 kd,.int .i64 ba,.int .i64 fa,.int .i64 wa,.int .i64 ev,.int .i64 tt]] w fun e w' => e = .returned (.bool (cok kd ev tt)) ∧ Kept w w':=by
 obtain ⟨X,hX⟩ : ∃ X,X = w.alloc (.cells #[.int .i64 kd,.int .i64 ba,.int .i64 fa,.int .i64 wa,.int .i64 ev,.int .i64 tt] 23):=⟨_,rfl⟩
 have hK : Kept w X:=by rw [hX]; exact (Kept.refl w).alloc _ _
 have HS0 : Hid (∀ u,Kept X u → u.cell? ⟨w.heap.size,0,none⟩ = some (.int .i64 kd) ∧ u.cell? ⟨w.heap.size,1,none⟩ = some (.int .i64 ba) ∧ u.cell? ⟨w.heap.size,2,none⟩ = some (.int .i64 fa) ∧ u.cell? ⟨w.heap.size,3,none⟩ = some (.int .i64 wa) ∧ u.cell? ⟨w.heap.size,4,none⟩ = some (.int .i64 ev) ∧ u.cell? ⟨w.heap.size,5,none⟩ = some (.int .i64 tt)):=fun u k => sch_cells w kd ba fa wa ev tt _ X hX u k
 obtain ⟨B0,hB0⟩ : ∃ B,B = w.heap.size:=⟨_,rfl⟩
 rw [← hB0] at HS0
 go_enter Tryz.func21,Tryz.ntmps21
 go_upto_region 1 with fail
 rw [← hX,← hB0]
 have hBX : B0 < X.heap.size:=by rw [hB0,hX]; simp
 clear hX hB0
 obtain ⟨c0,c1,c2,c3,c4,c5⟩:=HS0.out _ (Kept.refl X)
 go_wp2_with fail
 refine (K1.out _).mono ?_
 rintro e w1 ⟨rfl,k1⟩
 clear c0 c1 c2 c3 c4 c5
 obtain ⟨c0,c1,c2,c3,c4,c5⟩:=HS0.out _ k1
 go_wp2_with fail
 refine (K2.out _).mono ?_
 rintro e w2 ⟨rfl,k2⟩
 clear c0 c1 c2 c3 c4 c5
 obtain ⟨c0,c1,c2,c3,c4,c5⟩:=HS0.out _ (k1.trans k2)
 go_wp2_with fail
 refine (K3.out _).mono ?_
 rintro e w3 ⟨rfl,k3⟩
 clear c0 c1 c2 c3 c4 c5
 have k4:=k1.trans (k2.trans k3)
 obtain ⟨c0,c1,c2,c3,c4,c5⟩:=HS0.out _ k4
 have HQ:=hidr (hK.trans k4)
 clear k1 k2 k3 k4
 rcases hk with rfl | rfl | rfl | rfl | rfl | rfl
 ·go_wp2_with fail
  go_ret
  exact ⟨rfl,HQ.out⟩
 ·go_wp2_with fail
  go_ret
  exact ⟨rfl,HQ.out⟩
 ·go_wp2_with fail
  go_ret
  exact ⟨rfl,HQ.out⟩
 ·go_wp2_with fail
  go_ret
  exact ⟨rfl,HQ.out⟩
 ·go_wp2_with fail
  go_ret
  exact ⟨rfl,HQ.out⟩
 ·by_cases h1 : 0 < ev
  ·by_cases h2 : ev ≤ 8
   ·go_wp2_with fail
    go_ret
    exact ⟨by simp [cok,h1,h2] <;> omega,HQ.out⟩
   ·go_wp2_with fail
    go_ret
    exact ⟨by simp [cok,h1,h2] <;> omega,HQ.out⟩
  ·go_wp2_with fail
   go_ret
   exact ⟨by simp [cok,h1] <;> omega,HQ.out⟩
end Go.Proofs.YtnniljhdcplkgaaGreatDoor
