/- Package start: Make. -/
import Derived.Test.YtelbefihigkhjaaGreatDoorWa31
import Derived.Test.YtelbefihigkhjaaGreatDoorWa32
namespace Go.Proofs.YtelbefihigkhjaaGreatDoor
open Go.ChangeShapes Go.WideShapes Go.ChangeAt Go.RowKit
set_option maxHeartbeats 16000000
set_option maxRecDepth 100000
set_option linter.unusedVariables false
set_option linter.unusedSimpArgs false
theorem Q6.gs {S : List Nat} {w w' : World} {b : Nat} {v0 v1 v2 v3 v4 v5 : Value} (h : Q6 w b v0 v1 v2 v3 v4 v5) (k : Gs S w w') (hn : b ∉ S) : Q6 w' b v0 v1 v2 v3 v4 v5 :=
 ⟨(k.cell b 0 h.lt hn).trans h.c0,(k.cell b 1 h.lt hn).trans h.c1,(k.cell b 2 h.lt hn).trans h.c2,(k.cell b 3 h.lt hn).trans h.c3,(k.cell b 4 h.lt hn).trans h.c4,(k.cell b 5 h.lt hn).trans h.c5⟩
theorem Q6.alloc {w : World} {b : Nat} {v0 v1 v2 v3 v4 v5 : Value} (h : Q6 w b v0 v1 v2 v3 v4 v5) (c : Array Value) (t : TypeId) : Q6 (w.alloc (.cells c t)) b v0 v1 v2 v3 v4 v5:=h.kept ((Kept.refl w).alloc c t)
abbrev zeroM : Value:=.agg #[.int .i64 0,.int .i64 0,.int .i64 0,.slice none 0 0]
theorem make_kind (kd rows cols wd va vb s t : Int) (hk : kd < 0 ∨ 5 < kd) (w : World) : Calls Tryz.prog 11 #[.agg #[.int .i64 kd,.int .i64 rows,.int .i64 cols,.int .i64 wd,.int .i64 va,.int .i64 vb],.int .i64 s,.int .i64 t] w fun e w' => e = .returned (.tuple #[zeroM,.int .i64 42]) ∧ Kept w w':=by
 obtain ⟨Y,hY⟩ : ∃ Y,Y = (w.alloc (.cells #[.int .i64 kd,.int .i64 rows,.int .i64 cols,.int .i64 wd,.int .i64 va,.int .i64 vb] 23)).alloc (.cells #[.int .i64 0,.int .i64 0,.int .i64 0,.slice none 0 0] 28):=⟨_,rfl⟩
 obtain ⟨B0,hB0⟩ : ∃ B,B = w.heap.size:=⟨_,rfl⟩
 obtain ⟨B1,hB1⟩ : ∃ B,B = B0 + 1:=⟨_,rfl⟩
 have hK : Kept w Y:=by rw [hY]; exact ((Kept.refl w).alloc _ _).alloc _ _
 have hP0 : Q6 Y B0 (.int .i64 kd) (.int .i64 rows) (.int .i64 cols) (.int .i64 wd) (.int .i64 va) (.int .i64 vb):=by rw [hY,hB0]; exact (Q6.new w _ _ _ _ _ _ _).alloc _ _
 have hP1 : Q4 Y B1 (.int .i64 0) (.int .i64 0) (.int .i64 0) (.slice none 0 0):=by
  rw [hY,hB1,hB0]
  have:=Q4.new (w.alloc (.cells #[.int .i64 kd,.int .i64 rows,.int .i64 cols,.int .i64 wd,.int .i64 va,.int .i64 vb] 23)) (.int .i64 0) (.int .i64 0) (.int .i64 0) (.slice none 0 0) 28
  simpa using this
 have oB : Hid (w.heap.size ≤ B0 ∧ B0 < Y.heap.size ∧ w.heap.size ≤ B1 ∧ B1 < Y.heap.size ∧ B0 ≠ B1):=(show _ ∧ _ ∧ _ ∧ _ ∧ _ from by have h1:=hP0.lt; have h2:=hP1.lt; omega)
 go_enter Tryz.func11,Tryz.ntmps11
 go_upto_region 1 with fail
 rw [← hY,← hB0,← hB1]
 clear hY hB0 hB1
 obtain ⟨p0,p1,p2,p3,p4,p5⟩:=hP0
 have hr1:=hP1
 have hr2:=hr1.set4 (.int .i64 0) (.int .i64 0) (.int .i64 0) (.slice none 0 0); obtain ⟨r0,r1,r2,r3,rf⟩:=hr1; obtain ⟨d0,d1,d2,d3,df⟩:=hr2
 by_cases h0 : kd < 0
 ·have t0 : decide (kd < 0) = true:=decide_eq_true h0
  go_wp2_with fail
  exact bodyPost_ret (v:=.tuple #[zeroM,.int .i64 42]) (by simp [results,Tryz.results11,go_sem,d0,d1,d2,d3]) rfl ⟨rfl,(((hK.setCell oB.out.2.2.1 _).setCell oB.out.2.2.1 _).setCell oB.out.2.2.1 _).setCell oB.out.2.2.1 _⟩
 ·have t0 : decide (kd < 0) = false:=decide_eq_false h0
  have t1 : decide (kd > 5) = true:=decide_eq_true (by omega)
  have t2 : decide (5 < kd) = true:=decide_eq_true (by omega)
  go_wp2_with fail
  exact bodyPost_ret (v:=.tuple #[zeroM,.int .i64 42]) (by simp [results,Tryz.results11,go_sem,d0,d1,d2,d3]) rfl ⟨rfl,(((hK.setCell oB.out.2.2.1 _).setCell oB.out.2.2.1 _).setCell oB.out.2.2.1 _).setCell oB.out.2.2.1 _⟩
theorem make_zero (kd rows cols wd va vb s t : Int) (q : Int) (hk : 0 ≤ kd ∧ kd ≤ 5) (hq : (q != 0) = true) (hq2 : (q == 0) = false) (w : World)
  (KZ : Hid (∀ u,Calls Tryz.prog 26 #[.int .i64 rows,.int .i64 cols,.int .i64 wd] u fun e w' => e = .returned (.tuple #[zeroM,.int .i64 q]) ∧ Kept u w')) : Calls Tryz.prog 11 #[.agg #[.int .i64 kd,.int .i64 rows,.int .i64 cols,.int .i64 wd,.int .i64 va,.int .i64 vb],.int .i64 s,.int .i64 t] w fun e w' => e = .returned (.tuple #[zeroM,.int .i64 q]) ∧ Kept w w':=by
 have t0 : decide (kd < 0) = false:=decide_eq_false (by omega)
 have t1 : decide (kd > 5) = false:=decide_eq_false (by omega)
 have t2 : decide (5 < kd) = false:=decide_eq_false (by omega)
 clear hk
 obtain ⟨Y,hY⟩ : ∃ Y,Y = (w.alloc (.cells #[.int .i64 kd,.int .i64 rows,.int .i64 cols,.int .i64 wd,.int .i64 va,.int .i64 vb] 23)).alloc (.cells #[.int .i64 0,.int .i64 0,.int .i64 0,.slice none 0 0] 28):=⟨_,rfl⟩
 obtain ⟨B0,hB0⟩ : ∃ B,B = w.heap.size:=⟨_,rfl⟩
 obtain ⟨B1,hB1⟩ : ∃ B,B = B0 + 1:=⟨_,rfl⟩
 have hK : Kept w Y:=by rw [hY]; exact ((Kept.refl w).alloc _ _).alloc _ _
 have hP0 : Q6 Y B0 (.int .i64 kd) (.int .i64 rows) (.int .i64 cols) (.int .i64 wd) (.int .i64 va) (.int .i64 vb):=by rw [hY,hB0]; exact (Q6.new w _ _ _ _ _ _ _).alloc _ _
 have hP1 : Q4 Y B1 (.int .i64 0) (.int .i64 0) (.int .i64 0) (.slice none 0 0):=by
  rw [hY,hB1,hB0]
  have:=Q4.new (w.alloc (.cells #[.int .i64 kd,.int .i64 rows,.int .i64 cols,.int .i64 wd,.int .i64 va,.int .i64 vb] 23)) (.int .i64 0) (.int .i64 0) (.int .i64 0) (.slice none 0 0) 28
  simpa using this
 have oB : Hid (w.heap.size ≤ B0 ∧ B0 < Y.heap.size ∧ w.heap.size ≤ B1 ∧ B1 < Y.heap.size ∧ B0 ≠ B1):=(show _ ∧ _ ∧ _ ∧ _ ∧ _ from by have h1:=hP0.lt; have h2:=hP1.lt; omega)
 go_enter Tryz.func11,Tryz.ntmps11
 go_upto_region 1 with fail
 rw [← hY,← hB0,← hB1]
 clear hY hB0 hB1
 obtain ⟨p0,p1,p2,p3,p4,p5⟩:=hP0
 go_wp2_with (first | (go_at_call 26; refine (KZ.out _).mono ?_; rintro e w1 ⟨rfl,k1⟩; have k2:=k1.alloc #[.int .i64 0,.int .i64 0,.int .i64 0,.slice none 0 0] 28; have hr1:=hP1.kept k2; have hr2:=hr1.set4 (.int .i64 0) (.int .i64 0) (.int .i64 0) (.slice none 0 0); obtain ⟨r0,r1,r2,r3,rf⟩:=hr1; obtain ⟨d0,d1,d2,d3,df⟩:=hr2))
 exact bodyPost_ret (v:=.tuple #[zeroM,.int .i64 q]) (by simp [results,Tryz.results11,go_sem,d0,d1,d2,d3]) rfl ⟨rfl,((((hK.trans k2).setCell oB.out.2.2.1 _).setCell oB.out.2.2.1 _).setCell oB.out.2.2.1 _).setCell oB.out.2.2.1 _⟩
theorem make_num (kd rows cols wd va vb s t : Int) (q : Int) (N : Nat) (hk : 0 ≤ kd ∧ kd ≤ 5) (hq : (q != 0) = true) (hq2 : (q == 0) = false) (w : World)
  (KZ : Hid (∀ u,Calls Tryz.prog 26 #[.int .i64 rows,.int .i64 cols,.int .i64 wd] u fun e w' => ∃ g,e = .returned (.tuple #[.agg #[.int .i64 rows,.int .i64 cols,.int .i64 wd,.slice (some ⟨g,0,none⟩) N N],.int .i64 0]) ∧ u.heap.size ≤ g ∧ Own w' g N (List.replicate N 0) ∧ Kept u w'))
  (KN : Hid (∀ u,Calls Tryz.prog 27 #[.agg #[.int .i64 kd,.int .i64 rows,.int .i64 cols,.int .i64 wd,.int .i64 va,.int .i64 vb]] u fun e w' => e = .returned (.int .i64 q) ∧ Kept u w')) : Calls Tryz.prog 11 #[.agg #[.int .i64 kd,.int .i64 rows,.int .i64 cols,.int .i64 wd,.int .i64 va,.int .i64 vb],.int .i64 s,.int .i64 t] w fun e w' => e = .returned (.tuple #[zeroM,.int .i64 q]) ∧ Kept w w':=by
 have t0 : decide (kd < 0) = false:=decide_eq_false (by omega)
 have t1 : decide (kd > 5) = false:=decide_eq_false (by omega)
 have t2 : decide (5 < kd) = false:=decide_eq_false (by omega)
 clear hk
 obtain ⟨Y,hY⟩ : ∃ Y,Y = (w.alloc (.cells #[.int .i64 kd,.int .i64 rows,.int .i64 cols,.int .i64 wd,.int .i64 va,.int .i64 vb] 23)).alloc (.cells #[.int .i64 0,.int .i64 0,.int .i64 0,.slice none 0 0] 28):=⟨_,rfl⟩
 obtain ⟨B0,hB0⟩ : ∃ B,B = w.heap.size:=⟨_,rfl⟩
 obtain ⟨B1,hB1⟩ : ∃ B,B = B0 + 1:=⟨_,rfl⟩
 have hK : Kept w Y:=by rw [hY]; exact ((Kept.refl w).alloc _ _).alloc _ _
 have hP0 : Q6 Y B0 (.int .i64 kd) (.int .i64 rows) (.int .i64 cols) (.int .i64 wd) (.int .i64 va) (.int .i64 vb):=by rw [hY,hB0]; exact (Q6.new w _ _ _ _ _ _ _).alloc _ _
 have hP1 : Q4 Y B1 (.int .i64 0) (.int .i64 0) (.int .i64 0) (.slice none 0 0):=by
  rw [hY,hB1,hB0]
  have:=Q4.new (w.alloc (.cells #[.int .i64 kd,.int .i64 rows,.int .i64 cols,.int .i64 wd,.int .i64 va,.int .i64 vb] 23)) (.int .i64 0) (.int .i64 0) (.int .i64 0) (.slice none 0 0) 28
  simpa using this
 have oB : Hid (w.heap.size ≤ B0 ∧ B0 < Y.heap.size ∧ w.heap.size ≤ B1 ∧ B1 < Y.heap.size ∧ B0 ≠ B1):=(show _ ∧ _ ∧ _ ∧ _ ∧ _ from by have h1:=hP0.lt; have h2:=hP1.lt; omega)
 go_enter Tryz.func11,Tryz.ntmps11
 go_upto_region 1 with fail
 rw [← hY,← hB0,← hB1]
 clear hY hB0 hB1
 have HP0 : Hid (∀ u,Kept Y u → Q6 u B0 (.int .i64 kd) (.int .i64 rows) (.int .i64 cols) (.int .i64 wd) (.int .i64 va) (.int .i64 vb)):=fun u k => hP0.kept k
 obtain ⟨p0,p1,p2,p3,p4,p5⟩:=hP0
 go_wp2_with (first | (go_at_call 26; refine (KZ.out _).mono ?_; rintro e w1 ⟨g,rfl,og,ho,k1⟩; have k2:=k1.alloc #[.int .i64 rows,.int .i64 cols,.int .i64 wd,.slice (some ⟨g,0,none⟩) N N] 28; clear p0 p1 p2 p3 p4 p5; obtain ⟨p0,p1,p2,p3,p4,p5⟩:=HP0.out _ k2) | (go_at_call 27; refine (KN.out _).mono ?_; rintro e w3 ⟨rfl,k3⟩; have k4:=k2.trans k3; have hr1:=hP1.kept k4; have hr2:=hr1.set4 (.int .i64 0) (.int .i64 0) (.int .i64 0) (.slice none 0 0); obtain ⟨r0,r1,r2,r3,rf⟩:=hr1; obtain ⟨d0,d1,d2,d3,df⟩:=hr2))
 exact bodyPost_ret (v:=.tuple #[zeroM,.int .i64 q]) (by simp [results,Tryz.results11,go_sem,d0,d1,d2,d3]) rfl ⟨rfl,((((hK.trans k4).setCell oB.out.2.2.1 _).setCell oB.out.2.2.1 _).setCell oB.out.2.2.1 _).setCell oB.out.2.2.1 _⟩
theorem make_elems (kd rows cols wd va vb s t : Int) (N : Nat) (fe : Int) (L : List Int) (EO : World → World → Value → Prop) (hk : 0 ≤ kd ∧ kd ≤ 5) (w : World)
  (KZ : Hid (∀ u,Calls Tryz.prog 26 #[.int .i64 rows,.int .i64 cols,.int .i64 wd] u fun e w' => ∃ g,e = .returned (.tuple #[.agg #[.int .i64 rows,.int .i64 cols,.int .i64 wd,.slice (some ⟨g,0,none⟩) N N],.int .i64 0]) ∧ u.heap.size ≤ g ∧ Own w' g N (List.replicate N 0) ∧ Kept u w'))
  (KN : Hid (∀ u,Calls Tryz.prog 27 #[.agg #[.int .i64 kd,.int .i64 rows,.int .i64 cols,.int .i64 wd,.int .i64 va,.int .i64 vb]] u fun e w' => e = .returned (.int .i64 0) ∧ Kept u w'))
  (KE : Hid (∀ u,Kept w u → Calls Tryz.prog 29 #[.agg #[.int .i64 kd,.int .i64 rows,.int .i64 cols,.int .i64 wd,.int .i64 va,.int .i64 vb],.agg #[.int .i64 s,.int .i64 t,.int .i64 0]] u fun e w' => ∃ v,e = .returned v ∧ EO u w' v ∧ Kept u w'))
  (KF : Hid (∀ u0 u v g,Kept w u0 → Kept u0 u → EO u0 u v → Own u0 g N (List.replicate N 0) → Calls Tryz.prog 28 #[.agg #[.int .i64 rows,.int .i64 cols,.int .i64 wd,.slice (some ⟨g,0,none⟩) N N],v] u fun e w' => e = .returned (.int .i64 fe) ∧ (fe = 0 → Own w' g N L) ∧ ∃ D,u0.heap.size ≤ D ∧ Gs [D,g] u w'))
  (hfe : fe = 0 ∨ fe = 31) : Calls Tryz.prog 11 #[.agg #[.int .i64 kd,.int .i64 rows,.int .i64 cols,.int .i64 wd,.int .i64 va,.int .i64 vb],.int .i64 s,.int .i64 t] w fun e w' => (fe = 0 ∧ ∃ g,e = .returned (.tuple #[.agg #[.int .i64 rows,.int .i64 cols,.int .i64 wd,.slice (some ⟨g,0,none⟩) N N],.int .i64 0]) ∧ w.heap.size ≤ g ∧ Own w' g N L ∧ Kept w w') ∨ (fe = 31 ∧ e = .returned (.tuple #[zeroM,.int .i64 31]) ∧ Kept w w'):=by
 have t0 : decide (kd < 0) = false:=decide_eq_false (by omega)
 have t1 : decide (kd > 5) = false:=decide_eq_false (by omega)
 have t2 : decide (5 < kd) = false:=decide_eq_false (by omega)
 clear hk
 have hfe : Hid (fe = 0 ∨ fe = 31):=hfe
 obtain ⟨Y,hY⟩ : ∃ Y,Y = (w.alloc (.cells #[.int .i64 kd,.int .i64 rows,.int .i64 cols,.int .i64 wd,.int .i64 va,.int .i64 vb] 23)).alloc (.cells #[.int .i64 0,.int .i64 0,.int .i64 0,.slice none 0 0] 28):=⟨_,rfl⟩
 obtain ⟨B0,hB0⟩ : ∃ B,B = w.heap.size:=⟨_,rfl⟩
 obtain ⟨B1,hB1⟩ : ∃ B,B = B0 + 1:=⟨_,rfl⟩
 have hK : Kept w Y:=by rw [hY]; exact ((Kept.refl w).alloc _ _).alloc _ _
 have hP0 : Q6 Y B0 (.int .i64 kd) (.int .i64 rows) (.int .i64 cols) (.int .i64 wd) (.int .i64 va) (.int .i64 vb):=by rw [hY,hB0]; exact (Q6.new w _ _ _ _ _ _ _).alloc _ _
 have hP1 : Q4 Y B1 (.int .i64 0) (.int .i64 0) (.int .i64 0) (.slice none 0 0):=by
  rw [hY,hB1,hB0]
  have:=Q4.new (w.alloc (.cells #[.int .i64 kd,.int .i64 rows,.int .i64 cols,.int .i64 wd,.int .i64 va,.int .i64 vb] 23)) (.int .i64 0) (.int .i64 0) (.int .i64 0) (.slice none 0 0) 28
  simpa using this
 have oB : Hid (w.heap.size ≤ B0 ∧ B0 < Y.heap.size ∧ w.heap.size ≤ B1 ∧ B1 < Y.heap.size ∧ B0 ≠ B1):=(show _ ∧ _ ∧ _ ∧ _ ∧ _ from by have h1:=hP0.lt; have h2:=hP1.lt; omega)
 go_enter Tryz.func11,Tryz.ntmps11
 go_upto_region 1 with fail
 rw [← hY,← hB0,← hB1]
 clear hY hB0 hB1
 have HP0 : Hid (∀ u,Kept Y u → Q6 u B0 (.int .i64 kd) (.int .i64 rows) (.int .i64 cols) (.int .i64 wd) (.int .i64 va) (.int .i64 vb)):=fun u k => hP0.kept k
 obtain ⟨p0,p1,p2,p3,p4,p5⟩:=hP0
 go_wp2_with fail
 refine (KZ.out _).mono ?_
 rintro e w1 ⟨g,rfl,og,ho,k1⟩
 clear p0 p1 p2 p3 p4 p5
 go_upto_region 4 with fail
 obtain ⟨V,hV⟩ : ∃ V,V = w1.alloc (.cells #[.int .i64 rows,.int .i64 cols,.int .i64 wd,.slice (some ⟨g,0,none⟩) N N] 28):=⟨_,rfl⟩
 obtain ⟨B8,hB8⟩ : ∃ B,B = w1.heap.size:=⟨_,rfl⟩
 have kV : Kept Y V:=by rw [hV]; exact k1.alloc _ _
 have hP8 : Q4 V B8 (.int .i64 rows) (.int .i64 cols) (.int .i64 wd) (.slice (some ⟨g,0,none⟩) N N):=by rw [hV,hB8]; exact Q4.new w1 _ _ _ _ _
 have oV : Own V g N (List.replicate N 0):=by rw [hV]; exact ho.kept ((Kept.refl w1).alloc _ _)
 have o8 : Hid (Y.heap.size ≤ B8 ∧ g < B8):=(show _ ∧ _ from ⟨by rw [hB8]; exact k1.below.size,by rw [hB8]; exact ho.lt⟩)
 have og : Hid (Y.heap.size ≤ g):=og
 rw [← hV,← hB8]
 clear hV hB8 ho k1
 obtain ⟨p0,p1,p2,p3,p4,p5⟩:=HP0.out _ kV
 go_wp2_with fail
 refine (KN.out _).mono ?_
 rintro e w3 ⟨rfl,k3⟩
 clear p0 p1 p2 p3 p4 p5
 go_upto_region 7 with fail
 have kW:=kV.trans k3
 have H8:=hP8.kept k3
 have H0:=HP0.out _ kW
 have oW:=oV.kept k3
 clear hP8 oV kV
 have HS : Hid (∀ u,Q6 u B0 (.int .i64 kd) (.int .i64 rows) (.int .i64 cols) (.int .i64 wd) (.int .i64 va) (.int .i64 vb) → Q4 u B8 (.int .i64 rows) (.int .i64 cols) (.int .i64 wd) (.slice (some ⟨g,0,none⟩) N N) → (u.cell? ⟨B0,0,none⟩ = some (.int .i64 kd) ∧ u.cell? ⟨B0,1,none⟩ = some (.int .i64 rows) ∧ u.cell? ⟨B0,2,none⟩ = some (.int .i64 cols) ∧ u.cell? ⟨B0,3,none⟩ = some (.int .i64 wd) ∧ u.cell? ⟨B0,4,none⟩ = some (.int .i64 va) ∧ u.cell? ⟨B0,5,none⟩ = some (.int .i64 vb)) ∧ u.cell? ⟨B8,0,none⟩ = some (.int .i64 rows) ∧ u.cell? ⟨B8,1,none⟩ = some (.int .i64 cols) ∧ u.cell? ⟨B8,2,none⟩ = some (.int .i64 wd) ∧ u.cell? ⟨B8,3,none⟩ = some (.slice (some ⟨g,0,none⟩) N N)):=fun u a b => ⟨⟨a.c0,a.c1,a.c2,a.c3,a.c4,a.c5⟩,b.c0,b.c1,b.c2,b.c3⟩
 refine wp_region_late [] (fun u => (u.cell? ⟨B0,0,none⟩ = some (.int .i64 kd) ∧ u.cell? ⟨B0,1,none⟩ = some (.int .i64 rows) ∧ u.cell? ⟨B0,2,none⟩ = some (.int .i64 cols) ∧ u.cell? ⟨B0,3,none⟩ = some (.int .i64 wd) ∧ u.cell? ⟨B0,4,none⟩ = some (.int .i64 va) ∧ u.cell? ⟨B0,5,none⟩ = some (.int .i64 vb)) ∧ u.cell? ⟨B8,0,none⟩ = some (.int .i64 rows) ∧ u.cell? ⟨B8,1,none⟩ = some (.int .i64 cols) ∧ u.cell? ⟨B8,2,none⟩ = some (.int .i64 wd) ∧ u.cell? ⟨B8,3,none⟩ = some (.slice (some ⟨g,0,none⟩) N N)) (by kernel_rfl) (HS.out _ (H0.kept (Kept.refl w3).drew) (H8.kept (Kept.refl w3).drew)) (fun hHeld => ?_)
 refine tkD (i:=0) (v:=?_) rfl hHeld ?_
 (try simp only [Act.put,zA,zB,zC,zD,zE,zF])
 refine tkD (i:=1) (v:=?_) rfl hHeld ?_
 (try simp only [Act.put,zA,zB,zC,zD,zE,zF])
 refine tkD (i:=2) (v:=?_) rfl hHeld ?_
 (try simp only [Act.put,zA,zB,zC,zD,zE,zF])
 refine tkD (i:=3) (v:=?_) rfl hHeld ?_
 (try simp only [Act.put,zA,zB,zC,zD,zE,zF])
 refine tkD (i:=4) (v:=?_) rfl hHeld ?_
 (try simp only [Act.put,zA,zB,zC,zD,zE,zF])
 refine wpAnyD_step (i:=5) (by kernel_rfl) rfl (fun K hK9 => ?_)
 go_simp
 go_wp2_with fail
 refine (KE.out _ (hK.trans (kW.drew))).mono ?_
 rintro e u5 ⟨v5,rfl,e5,k5⟩
 refine hK9.out _ _ (HS.out _ (H0.kept ((Kept.refl w3).drew.trans k5)) (H8.kept ((Kept.refl w3).drew.trans k5))) (fun hH5 => ?_)
 clear hK9 K
 (try simp only [Act.put,zA,zB,zC,zD,zE,zF])
 refine wpAnyD_step (i:=6) (by kernel_rfl) rfl (fun K hK9 => ?_)
 go_simp
 go_wp2_with fail
 refine (KF.out _ _ _ _ (hK.trans kW.drew) k5 e5 (oW.kept (Kept.refl w3).drew)).mono ?_
 rintro e u6 ⟨rfl,o6,D,oD,g6⟩
 have nS : B0 ∉ [D,g] ∧ B8 ∉ [D,g] ∧ B1 ∉ [D,g]:=by
  have h1:=oB.out
  have h2:=o8.out
  have h3:=og.out
  have h4:=H8.lt
  have h5:=kW.below.size
  simp only [World.size_drew] at oD
  refine ⟨?_,?_,?_⟩ <;> (simp; omega)
 have H06:=(H0.kept ((Kept.refl w3).drew.trans k5)).gs g6 nS.1
 have H86:=(H8.kept ((Kept.refl w3).drew.trans k5)).gs g6 nS.2.1
 have H16:=((hP1.kept kW).kept ((Kept.refl w3).drew.trans k5)).gs g6 nS.2.2
 have kF : Kept w u6:=(hK.trans (kW.drew.trans k5)).gsn (by
  intro i hi
  have h1:=(hK.trans kW).below.size
  have h3:=og.out
  have h4:=hK.below.size
  simp only [World.size_drew] at oD
  simp at hi
  omega) g6
 refine hK9.out _ _ (HS.out _ H06 H86) (fun hH6 => ?_)
 clear hK9 K
 (try simp only [Act.put,zA,zB,zC,zD,zE,zF])
 refine tkD (i:=7) (v:=?_) rfl hH6 ?_
 (try simp only [Act.put,zA,zB,zC,zD,zE,zF])
 refine wpAnyD_done (by kernel_rfl) ?_ _
 (try simp only [Act.put,zA,zB,zC,zD,zE,zF])
 have n1 : g ≠ B1:=by have h1:=oB.out; have h3:=og.out; omega
 have ogw : w.heap.size ≤ g:=by have h1:=hK.below.size; have h3:=og.out; omega
 have o1:=oB.out.2.2.1
 obtain ⟨c0,c1,c2,c3,cf⟩:=H86
 rcases hfe.out with rfl | rfl
 ·have o7:=o6 rfl
  have hr2:=H16.set4 (.int .i64 rows) (.int .i64 cols) (.int .i64 wd) (.slice (some ⟨g,0,none⟩) N N)
  obtain ⟨r0,r1,r2,r3,rf⟩:=H16
  obtain ⟨d0,d1,d2,d3,df⟩:=hr2
  go_wp2_with fail
  exact bodyPost_ret (v:=.tuple #[.agg #[.int .i64 rows,.int .i64 cols,.int .i64 wd,.slice (some ⟨g,0,none⟩) N N],.int .i64 0]) (by simp [results,Tryz.results11,go_sem,d0,d1,d2,d3]) rfl (by first | exact .inl ⟨rfl,g,rfl,ogw,(((o7.setOther n1 _).setOther n1 _).setOther n1 _).setOther n1 _,(((kF.setCell o1 _).setCell o1 _).setCell o1 _).setCell o1 _⟩ | exact ⟨g,rfl,ogw,(((o7.setOther n1 _).setOther n1 _).setOther n1 _).setOther n1 _,(((kF.setCell o1 _).setCell o1 _).setCell o1 _).setCell o1 _⟩)
 ·have hr2:=H16.set4 (.int .i64 0) (.int .i64 0) (.int .i64 0) (.slice none 0 0)
  obtain ⟨r0,r1,r2,r3,rf⟩:=H16
  obtain ⟨d0,d1,d2,d3,df⟩:=hr2
  go_wp2_with fail
  exact bodyPost_ret (v:=.tuple #[zeroM,.int .i64 31]) (by simp [results,Tryz.results11,go_sem,d0,d1,d2,d3]) rfl (by first | exact .inr ⟨rfl,rfl,(((kF.setCell o1 _).setCell o1 _).setCell o1 _).setCell o1 _⟩ | exact ⟨rfl,(((kF.setCell o1 _).setCell o1 _).setCell o1 _).setCell o1 _⟩)
end Go.Proofs.YtelbefihigkhjaaGreatDoor
