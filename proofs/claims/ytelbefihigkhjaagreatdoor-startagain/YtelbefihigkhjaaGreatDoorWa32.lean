/- Package start: an Init's numbers. -/
import Derived.Test.YtelbefihigkhjaaGreatDoorWa30
import Derived.Test.YtelbefihigkhjaaGreatDoorWa31
namespace Go.Proofs.YtelbefihigkhjaaGreatDoor
open Go.ChangeShapes Go.WideShapes Go.ChangeAt Go.RowKit
set_option maxHeartbeats 16000000
set_option maxRecDepth 100000
set_option linter.unusedVariables false
set_option linter.unusedSimpArgs false
def ckn (b : Int) (u : Bool) : Int:=if u = false ∧ b ≠ 0 then 1 else if cls b 64 = 4 then 30 else if cls b 64 = 3 then 31 else 0
theorem checkNumber_any (b : Int) (u : Bool) (h1 : -9223372036854775808 ≤ b) (h2 : b ≤ 9223372036854775807) (w : World) : Calls Tryz.prog 99 #[.int .i64 b,.bool u] w fun e w' => e = .returned (.int .i64 (ckn b u)) ∧ Kept w w':=by
 have KC : Hid (∀ v,Calls Tryz.prog 83 #[.int .i64 b,.int .i64 64] v fun e w' => e = .returned (.int .i64 (cls b 64)) ∧ Kept v w'):=fun v => class_any b 64 v
 unfold ckn
 generalize cls b 64 = c at *
 cases u with
 | true =>
  go_enter Tryz.func99,Tryz.ntmps99
  go_wp2_with (first | (go_at_call 83; refine (KC.out _).mono ?_; rintro e w1 ⟨rfl,k1⟩))
  all_goals
   go_ret
   refine ⟨ret_int ?_,k1⟩
   simp_all
 | false =>
  by_cases hb : b = 0
  ·subst hb
   go_enter Tryz.func99,Tryz.ntmps99
   go_wp2_with (first | (go_at_call 83; refine (KC.out _).mono ?_; rintro e w1 ⟨rfl,k1⟩))
   all_goals
    go_ret
    refine ⟨ret_int ?_,k1⟩
    simp_all
  ·have hb2 : (b != 0) = true:=by simpa using hb
   go_enter Tryz.func99,Tryz.ntmps99
   go_wp2_with (first | (go_at_call 83; refine (KC.out _).mono ?_; rintro e w1 ⟨rfl,k1⟩))
   all_goals
    go_ret
    refine ⟨ret_int ?_,k1⟩
    simp_all
def uA (kd : Int) : Bool:=decide (kd = 1 ∨ kd = 2 ∨ kd = 5)
def uB (kd : Int) : Bool:=decide (kd = 2)
def cks (kd va vb : Int) : Int:=if ckn va (uA kd) ≠ 0 then ckn va (uA kd) else if ckn vb (uB kd) ≠ 0 then ckn vb (uB kd) else if uB kd = true ∧ lss vb va 64 = true then 1 else 0
structure Q6 (w : World) (b : Nat) (v0 v1 v2 v3 v4 v5 : Value) : Prop where
 c0 : w.cell? ⟨b,0,none⟩ = some v0
 c1 : w.cell? ⟨b,1,none⟩ = some v1
 c2 : w.cell? ⟨b,2,none⟩ = some v2
 c3 : w.cell? ⟨b,3,none⟩ = some v3
 c4 : w.cell? ⟨b,4,none⟩ = some v4
 c5 : w.cell? ⟨b,5,none⟩ = some v5
theorem Q6.new (w : World) (v0 v1 v2 v3 v4 v5 : Value) (t : TypeId) : Q6 (w.alloc (.cells #[v0,v1,v2,v3,v4,v5] t)) w.heap.size v0 v1 v2 v3 v4 v5:=⟨by simp [go_sem],by simp [go_sem],by simp [go_sem],by simp [go_sem],by simp [go_sem],by simp [go_sem]⟩
theorem Q6.lt {w : World} {b : Nat} {v0 v1 v2 v3 v4 v5 : Value} (h : Q6 w b v0 v1 v2 v3 v4 v5) : b < w.heap.size:=World.block_lt_of_cell? _ _ h.c0
theorem Q6.kept {w w' : World} {b : Nat} {v0 v1 v2 v3 v4 v5 : Value} (h : Q6 w b v0 v1 v2 v3 v4 v5) (k : Kept w w') : Q6 w' b v0 v1 v2 v3 v4 v5 :=
 ⟨(k.below.cell (p:=⟨b,0,none⟩) h.lt).trans h.c0,(k.below.cell (p:=⟨b,1,none⟩) h.lt).trans h.c1,(k.below.cell (p:=⟨b,2,none⟩) h.lt).trans h.c2,(k.below.cell (p:=⟨b,3,none⟩) h.lt).trans h.c3,(k.below.cell (p:=⟨b,4,none⟩) h.lt).trans h.c4,(k.below.cell (p:=⟨b,5,none⟩) h.lt).trans h.c5⟩
theorem checkNumbers_any (kd rows cols wd va vb : Int) (hk : kd = 0 ∨ kd = 1 ∨ kd = 2 ∨ kd = 3 ∨ kd = 4 ∨ kd = 5) (ha : -9223372036854775808 ≤ va ∧ va ≤ 9223372036854775807) (hb : -9223372036854775808 ≤ vb ∧ vb ≤ 9223372036854775807) (w : World) : Calls Tryz.prog 27 #[.agg #[.int .i64 kd,.int .i64 rows,.int .i64 cols,.int .i64 wd,.int .i64 va,.int .i64 vb]] w fun e w' => e = .returned (.int .i64 (cks kd va vb)) ∧ Kept w w':=by
 have K1 : Hid (∀ u,Calls Tryz.prog 99 #[.int .i64 va,.bool (uA kd)] u fun e w' => e = .returned (.int .i64 (ckn va (uA kd))) ∧ Kept u w'):=fun u => checkNumber_any va _ ha.1 ha.2 u
 have K2 : Hid (∀ u,Calls Tryz.prog 99 #[.int .i64 vb,.bool (uB kd)] u fun e w' => e = .returned (.int .i64 (ckn vb (uB kd))) ∧ Kept u w'):=fun u => checkNumber_any vb _ hb.1 hb.2 u
 have KL : Hid (∀ u,Calls Tryz.prog 84 #[.int .i64 vb,.int .i64 va,.int .i64 64] u fun e w' => e = .returned (.bool (lss vb va 64)) ∧ Kept u w'):=fun u => less_any vb va 64 hb.1 hb.2 ha.1 ha.2 u
 unfold cks
 generalize lss vb va 64 = l at *
 generalize ckn va (uA kd) = q1 at *
 generalize ckn vb (uB kd) = q2 at *
 obtain ⟨X,hX⟩ : ∃ X,X = w.alloc (.cells #[.int .i64 kd,.int .i64 rows,.int .i64 cols,.int .i64 wd,.int .i64 va,.int .i64 vb] 23):=⟨_,rfl⟩
 obtain ⟨B0,hB0⟩ : ∃ B,B = w.heap.size:=⟨_,rfl⟩
 have hK : Kept w X:=by rw [hX]; exact (Kept.refl w).alloc _ _
 have hP : Q6 X B0 (.int .i64 kd) (.int .i64 rows) (.int .i64 cols) (.int .i64 wd) (.int .i64 va) (.int .i64 vb):=by rw [hX,hB0]; exact Q6.new w _ _ _ _ _ _ _
 have HP : Hid (∀ u,Kept X u → u.cell? ⟨B0,4,none⟩ = some (.int .i64 va) ∧ u.cell? ⟨B0,5,none⟩ = some (.int .i64 vb)):=fun u k => ⟨(hP.kept k).c4,(hP.kept k).c5⟩
 have HB : Hid (uA kd = decide (kd = 1 ∨ kd = 2 ∨ kd = 5) ∧ uB kd = decide (kd = 2)):=(show _ ∧ _ from ⟨rfl,rfl⟩)
 go_enter Tryz.func27,Tryz.ntmps27
 go_upto_region 1 with fail
 rw [← hX,← hB0]
 clear hX hB0 ha hb
 obtain ⟨p0,p1,p2,p3,p4,p5⟩:=hP
 have HK : Hid (kd = 0 ∨ kd = 1 ∨ kd = 2 ∨ kd = 3 ∨ kd = 4 ∨ kd = 5):=hk
 clear hk
 by_cases hq1 : q1 = 0
 ·subst hq1
  by_cases hq2 : q2 = 0
  ·subst hq2
   rcases HK.out with rfl | rfl | rfl | rfl | rfl | rfl
   all_goals
    have hu:=HB.out
    simp only [Int.reduceEq,or_true,true_or,or_false,false_or,decide_true,decide_false] at hu
    rw [hu.1] at K1
    rw [hu.2] at K2
    cases l
    all_goals
     go_wp2_with (first | (go_at_call 99; refine (K1.out _).mono ?_; rintro e w1 ⟨rfl,k1⟩; clear K1; clear p0 p1 p2 p3 p4 p5; obtain ⟨c4,c5⟩:=HP.out _ k1) | (go_at_call 99; refine (K2.out _).mono ?_; rintro e w2 ⟨rfl,k2⟩; clear K2; clear c4 c5; obtain ⟨c4,c5⟩:=HP.out _ (k1.trans k2)) | (go_at_call 84; refine (KL.out _).mono ?_; rintro e w3 ⟨rfl,k3⟩))
     go_ret
     first
      | exact ⟨by simp [hu.2],hK.trans ((k1.trans k2).trans k3)⟩
      | exact ⟨by simp [hu.2],hK.trans (k1.trans k2)⟩
  ·have h2 : (q2 != 0) = true:=by simpa using hq2
   rcases HK.out with rfl | rfl | rfl | rfl | rfl | rfl
   all_goals
    have hu:=HB.out
    simp only [Int.reduceEq,or_true,true_or,or_false,false_or,decide_true,decide_false] at hu
    rw [hu.1] at K1
    rw [hu.2] at K2
    go_wp2_with (first | (go_at_call 99; refine (K1.out _).mono ?_; rintro e w1 ⟨rfl,k1⟩; clear K1; clear p0 p1 p2 p3 p4 p5; obtain ⟨c4,c5⟩:=HP.out _ k1) | (go_at_call 99; refine (K2.out _).mono ?_; rintro e w2 ⟨rfl,k2⟩; clear K2))
    go_ret
    exact ⟨by simp [hq2],hK.trans (k1.trans k2)⟩
 ·have h1 : (q1 != 0) = true:=by simpa using hq1
  rcases HK.out with rfl | rfl | rfl | rfl | rfl | rfl
  all_goals
   have hu:=HB.out
   simp only [Int.reduceEq,or_true,true_or,or_false,false_or,decide_true,decide_false] at hu
   rw [hu.1] at K1
   go_wp2_with (first | (go_at_call 99; refine (K1.out _).mono ?_; rintro e w1 ⟨rfl,k1⟩; clear K1))
   go_ret
   exact ⟨by simp [hq1],hK.trans k1⟩
end Go.Proofs.YtelbefihigkhjaaGreatDoor
