/- Package span: both,told,point,number,joined,holds. Package span: told,point,number,joined,holds. Package span: joined,holds. -/
import Derived.Test.YtdhimkpfnhoagaaGreatDoorWo26
namespace Go.Proofs.YtdhimkpfnhoagaaGreatDoor
open Go.ChangeShapes Go.WideShapes Go.ChangeAt Go.RowKit Ieee
set_option linter.unusedVariables false
set_option linter.unusedSimpArgs false
set_option maxHeartbeats 16000000
set_option maxRecDepth 100000
abbrev sp2 (a b : Int) : Value:=.agg #[.int .i64 a,.int .i64 b]
theorem P2.set {w : World} {b : Nat} {u v : Value} (h : P2 w b u v) (q o : Nat) (hq : q ≠ b) (x : Value) : P2 (w.setCell ⟨q,o,none⟩ x) b u v:=by
 obtain ⟨c0,c1,fz⟩:=h
 have h' : b ≠ q:=fun e => hq e.symm
 exact ⟨by simp [go_sem, *],by simp [go_sem, *],fun o => by simp [World.frozen?_setCell, *]⟩
theorem P2.alloc {w : World} {b : Nat} {u v : Value} (h : P2 w b u v) (c : Array Value) (t : TypeId) : P2 (w.alloc (.cells c t)) b u v:=h.kept ((Kept.refl w).alloc c t)
theorem both_walk (a1 b1 a2 b2 n : Int) (x1 y1 x2 y2 : Nat) (q1 q2 : Int) (w : World)
  (KO : Hid (∀ u a b x y q,(a = a1 ∧ b = b1 ∧ x = x1 ∧ y = y1 ∧ q = q1 ∨ a = a2 ∧ b = b2 ∧ x = x2 ∧ y = y2 ∧ q = q2) → Calls Tryz.prog 73 #[sp2 a b,.int .i64 n] u fun e w' => e = .returned (.tuple #[fv2 x y,.int .i64 q]) ∧ Kept u w')) :
  Calls Tryz.prog 67 #[sp2 a1 b1,sp2 a2 b2,.int .i64 n] w fun e w' => e = .returned (if q1 = 0 ∧ q2 = 0 then .tuple #[fv2 x1 y1,fv2 x2 y2,.int .i64 0] else .tuple #[zi,zi,.int .i64 (if q1 = 0 then q2 else q1)]) ∧ Kept w w':=by
 obtain ⟨X,hX⟩ : ∃ X,X = (((w.alloc (.cells #[.int .i64 a1,.int .i64 b1] 23)).alloc (.cells #[.int .i64 a2,.int .i64 b2] 23)).alloc (.cells #[.float .f64 0,.float .f64 0] 87)).alloc (.cells #[.float .f64 0,.float .f64 0] 87):=⟨_,rfl⟩
 have hP1 : P2 X w.heap.size (.int .i64 a1) (.int .i64 b1):=by
  rw [hX]
  exact (((P2.new w _ _ _).alloc _ _).alloc _ _).alloc _ _
 have hP2 : P2 X (w.heap.size + 1) (.int .i64 a2) (.int .i64 b2):=by
  rw [hX]
  have:=((P2.new (w.alloc (.cells #[.int .i64 a1,.int .i64 b1] 23)) (.int .i64 a2) (.int .i64 b2) 23).alloc #[.float .f64 0,.float .f64 0] 87).alloc #[.float .f64 0,.float .f64 0] 87
  simpa using this
 have hQ1 : P2 X (w.heap.size + 2) (.float .f64 0) (.float .f64 0):=by
  rw [hX]
  have:=(P2.new ((w.alloc (.cells #[.int .i64 a1,.int .i64 b1] 23)).alloc (.cells #[.int .i64 a2,.int .i64 b2] 23)) (.float .f64 0) (.float .f64 0) 87).alloc #[.float .f64 0,.float .f64 0] 87
  simpa using this
 have hQ2 : P2 X (w.heap.size + 3) (.float .f64 0) (.float .f64 0):=by
  rw [hX]
  have:=P2.new (((w.alloc (.cells #[.int .i64 a1,.int .i64 b1] 23)).alloc (.cells #[.int .i64 a2,.int .i64 b2] 23)).alloc (.cells #[.float .f64 0,.float .f64 0] 87)) (.float .f64 0) (.float .f64 0) 87
  simpa using this
 have hK : Kept w X:=by
  rw [hX]
  exact ((((Kept.refl w).alloc _ _).alloc _ _).alloc _ _).alloc _ _
 have hs : Hid (X.heap.size = w.heap.size + 4):=by rw [hX]; simp [Hid]
 have hSF:=sto_f
 go_enter Tryz.func67,Tryz.ntmps67
 go_upto_region 1 with fail
 rw [← hX]
 clear hX
 obtain ⟨H1,hH1⟩ : ∃ H,H = w.heap.size + 1:=⟨_,rfl⟩
 obtain ⟨H2,hH2⟩ : ∃ H,H = H1 + 1:=⟨_,rfl⟩
 obtain ⟨H3,hH3⟩ : ∃ H,H = H2 + 1:=⟨_,rfl⟩
 rw [← hH1,← hH2,← hH3]
 rw [← hH1] at hP2
 rw [show w.heap.size + 2 = H2 by omega] at hQ1
 rw [show w.heap.size + 3 = H3 by omega] at hQ2
 have n23 : ¬ H2 = H3:=by omega
 have n32 : ¬ H3 = H2:=by omega
 have o2 : w.heap.size ≤ H2:=by omega
 have o3 : w.heap.size ≤ H3:=by omega
 have l3 : H3 < X.heap.size:=by have:=hs.out; omega
 have l2 : H2 < X.heap.size:=by omega
 clear hH1 hH2 hH3 hs
 obtain ⟨p10,p11,p1f⟩:=hP1
 go_upto_region 2 with (first | (go_at_call 73; refine (KO.out _ _ _ _ _ _ (.inl ⟨rfl,rfl,rfl,rfl,rfl⟩)).mono ?_; rintro e w1 ⟨rfl,k1⟩))
 have z1:=k1.below.size
 obtain ⟨Y,hY⟩ : ∃ Y,Y = w1.alloc (.cells #[.float .f64 x1,.float .f64 y1] 87):=⟨_,rfl⟩
 have hkY : Kept X Y:=by rw [hY]; exact k1.alloc _ _
 have hPY : P2 Y w1.heap.size (.float .f64 x1) (.float .f64 y1):=by rw [hY]; exact P2.new _ _ _ _
 rw [← hY]
 clear hY p10 p11 p1f
 obtain ⟨B1,hB1⟩ : ∃ B,B = w1.heap.size:=⟨_,rfl⟩
 rw [← hB1] at hPY ⊢
 have hB1' : X.heap.size ≤ B1:=by omega
 clear hB1 z1 k1
 have kwY:=hK.trans hkY
 have r1:=hQ1.kept hkY
 have r2:=hQ2.kept hkY
 by_cases g1 : q1 = 0
 ·subst g1
  obtain ⟨p20,p21,p2f⟩:=hP2.kept hkY
  go_upto_region 5 with (first | (go_at_call 73; refine (KO.out _ _ _ _ _ _ (.inr ⟨rfl,rfl,rfl,rfl,rfl⟩)).mono ?_; rintro e w2 ⟨rfl,k2⟩))
  have z2:=k2.below.size
  obtain ⟨Z,hZ⟩ : ∃ Z,Z = w2.alloc (.cells #[.float .f64 x2,.float .f64 y2] 87):=⟨_,rfl⟩
  have hkZ : Kept Y Z:=by rw [hZ]; exact k2.alloc _ _
  have hPZ : P2 Z w2.heap.size (.float .f64 x2) (.float .f64 y2):=by rw [hZ]; exact P2.new _ _ _ _
  rw [← hZ]
  clear hZ p20 p21 p2f
  obtain ⟨B2,hB2⟩ : ∃ B,B = w2.heap.size:=⟨_,rfl⟩
  rw [← hB2] at hPZ ⊢
  have hB2' : X.heap.size ≤ B2:=by have:=hkY.below.size; omega
  clear hB2 z2 k2
  have kwZ:=kwY.trans hkZ
  have s1:=r1.kept hkZ
  have s2:=r2.kept hkZ
  by_cases g2 : q2 = 0
  ·subst g2
   have u1 : ¬ B1 = H2:=by omega
   have u2 : ¬ B1 = H3:=by omega
   have u3 : ¬ H2 = B1:=by omega
   have u4 : ¬ H3 = B1:=by omega
   have v1 : ¬ B2 = H2:=by omega
   have v2 : ¬ B2 = H3:=by omega
   have v3 : ¬ H2 = B2:=by omega
   have v4 : ¬ H3 = B2:=by omega
   obtain ⟨m0,m1,mf⟩:=hPY.kept hkZ
   obtain ⟨n0,n1,nf⟩:=hPZ
   have t1:=((s1.put (.float .f64 x1) (.float .f64 y1)).set H3 0 (by omega) (.float .f64 x2)).set H3 1 (by omega) (.float .f64 y2)
   have t2:=((s2.set H2 0 (by omega) (.float .f64 x1)).set H2 1 (by omega) (.float .f64 y1)).put (.float .f64 x2) (.float .f64 y2)
   have hkw : Kept w ((((Z.setCell ⟨H2,0,none⟩ (.float .f64 x1)).setCell ⟨H2,1,none⟩ (.float .f64 y1)).setCell ⟨H3,0,none⟩ (.float .f64 x2)).setCell ⟨H3,1,none⟩ (.float .f64 y2)):=(((kwZ.setCell o2 _).setCell o2 _).setCell o3 _).setCell o3 _
   obtain ⟨a0,a1',af⟩:=s1
   obtain ⟨c0,c1,cf⟩:=s2
   obtain ⟨d0,d1,df⟩:=t1
   obtain ⟨e0,e1,ef⟩:=t2
   clear hQ1 hQ2 r1 r2 hPY hP2 KO
   go_wp2_with fail
   go_region
   all_goals go_wp2_with fail
   all_goals exact bodyPost_ret (v:=.tuple #[fv2 x1 y1,fv2 x2 y2,.int .i64 0]) (by simp [results,Tryz.results67,go_sem, *]) rfl ⟨by simp,by first | exact hkw | exact hkw.drew | (repeat' first | exact kwZ | refine Kept.drew ?_ | refine Kept.setCell ?_ ?_ _ | exact o2 | exact o3)⟩
  ·have hq : (q2 != 0) = true:=by simpa using g2
   have t1:=((s1.put (.float .f64 0) (.float .f64 0)).set H3 0 (by omega) (.float .f64 0)).set H3 1 (by omega) (.float .f64 0)
   have t2:=((s2.set H2 0 (by omega) (.float .f64 0)).set H2 1 (by omega) (.float .f64 0)).put (.float .f64 0) (.float .f64 0)
   have hkw : Kept w ((((Z.setCell ⟨H2,0,none⟩ (.float .f64 0)).setCell ⟨H2,1,none⟩ (.float .f64 0)).setCell ⟨H3,0,none⟩ (.float .f64 0)).setCell ⟨H3,1,none⟩ (.float .f64 0)):=(((kwZ.setCell o2 _).setCell o2 _).setCell o3 _).setCell o3 _
   obtain ⟨a0,a1',af⟩:=s1
   obtain ⟨c0,c1,cf⟩:=s2
   obtain ⟨d0,d1,df⟩:=t1
   obtain ⟨e0,e1,ef⟩:=t2
   clear hQ1 hQ2 r1 r2 hPY hP2 KO
   go_wp2_with fail
   exact bodyPost_ret (v:=.tuple #[zi,zi,.int .i64 q2]) (by simp [results,Tryz.results67,go_sem, *]) rfl ⟨by simp [g2],hkw⟩
 ·have hq : (q1 != 0) = true:=by simpa using g1
  have t1:=((r1.put (.float .f64 0) (.float .f64 0)).set H3 0 (by omega) (.float .f64 0)).set H3 1 (by omega) (.float .f64 0)
  have t2:=((r2.set H2 0 (by omega) (.float .f64 0)).set H2 1 (by omega) (.float .f64 0)).put (.float .f64 0) (.float .f64 0)
  have hkw : Kept w ((((Y.setCell ⟨H2,0,none⟩ (.float .f64 0)).setCell ⟨H2,1,none⟩ (.float .f64 0)).setCell ⟨H3,0,none⟩ (.float .f64 0)).setCell ⟨H3,1,none⟩ (.float .f64 0)):=(((kwY.setCell o2 _).setCell o2 _).setCell o3 _).setCell o3 _
  obtain ⟨a0,a1',af⟩:=r1
  obtain ⟨c0,c1,cf⟩:=r2
  obtain ⟨d0,d1,df⟩:=t1
  obtain ⟨e0,e1,ef⟩:=t2
  clear hQ1 hQ2 hPY hP2 KO
  go_wp2_with fail
  exact bodyPost_ret (v:=.tuple #[zi,zi,.int .i64 q1]) (by simp [results,Tryz.results67,go_sem, *]) rfl ⟨by simp [g1],hkw⟩
theorem told_err5 (x y : Nat) (n q : Int) (hq : (q != 0) = true) (w : World) : Calls Tryz.prog 68 #[fv2 x y,.int .i64 n,.int .i64 q] w fun e w' => e = .returned (.tuple #[sp2 0 0,.int .i64 q]) ∧ Kept w w':=by
 go_enter Tryz.func68,Tryz.ntmps68
 go_wp2_with fail
 refine bodyPost_ret (v:=.tuple #[sp2 0 0,.int .i64 q]) (by simp [results,Tryz.results68,go_sem]) rfl ⟨rfl,?_⟩
 (repeat' first | exact Kept.refl _ | refine Kept.setCell ?_ ?_ _ | refine Kept.alloc ?_ _ _ | (simp; done) | (simp <;> omega))
theorem told_ok5 {n : Int} {x y : Nat} {k j : Int} (hx : Fl n x k) (hy : Fl n y j) (w : World) : Calls Tryz.prog 68 #[fv2 x y,.int .i64 n,.int .i64 0] w fun e w' => e = .returned (.tuple #[sp2 (pz n k) (pz n j),.int .i64 0]) ∧ Kept w w':=by
 obtain ⟨X,hX⟩ : ∃ X,X = (w.alloc (.cells #[.float .f64 x,.float .f64 y] 87)).alloc (.cells #[.int .i64 0,.int .i64 0] 23):=⟨_,rfl⟩
 have hP : P2 X w.heap.size (.float .f64 x) (.float .f64 y):=by
  rw [hX]
  exact (P2.new w _ _ _).alloc _ _
 have hQ : P2 X (w.heap.size + 1) (.int .i64 0) (.int .i64 0):=by
  rw [hX]
  have:=P2.new (w.alloc (.cells #[.float .f64 x,.float .f64 y] 87)) (.int .i64 0) (.int .i64 0) 23
  simpa using this
 have hK : Kept w X:=by
  rw [hX]
  exact ((Kept.refl w).alloc _ _).alloc _ _
 have kd : Kept X X.drew:=(Kept.refl X).drew
 have HS : Hid (∀ u,Kept X u → u.cell? ⟨w.heap.size,0,none⟩ = some (.float .f64 x) ∧ u.cell? ⟨w.heap.size,1,none⟩ = some (.float .f64 y)):=fun u k => ⟨(hP.kept k).c0,(hP.kept k).c1⟩
 have KP : Hid (∀ u z p,(z = x ∧ p = pz n k ∨ z = y ∧ p = pz n j) → Kept X u → Calls Tryz.prog 117 #[.float .f64 z,.int .i64 n] u fun e w' => e = .returned (.int .i64 p) ∧ Kept X w' ∧ Kept u w'):=fun u z p h kk => by
  rcases h with ⟨rfl,rfl⟩ | ⟨rfl,rfl⟩
  ·refine (pattern_any hx u).mono ?_
   rintro e w' ⟨rfl,k'⟩
   exact ⟨rfl,kk.trans k',k'⟩
  ·refine (pattern_any hy u).mono ?_
   rintro e w' ⟨rfl,k'⟩
   exact ⟨rfl,kk.trans k',k'⟩
 clear hx hy
 generalize pz n k = p at *
 generalize pz n j = q at *
 obtain ⟨H1,hH1⟩ : ∃ H,H = w.heap.size + 1:=⟨_,rfl⟩
 rw [← hH1] at hQ
 have o1 : w.heap.size ≤ H1:=by omega
 have n1 : ¬ H1 = w.heap.size:=by omega
 have n2 : ¬ w.heap.size = H1:=by omega
 have HQ : Hid (∀ u,Kept X u → u.cell? ⟨H1,0,none⟩ = some (.int .i64 0) ∧ u.cell? ⟨H1,1,none⟩ = some (.int .i64 0) ∧ ∀ o,u.frozen? ⟨H1,o,none⟩ = false):=fun u k => ⟨(hQ.kept k).c0,(hQ.kept k).c1,(hQ.kept k).fz⟩
 go_enter Tryz.func68,Tryz.ntmps68
 go_upto_region 1 with fail
 rw [← hX,← hH1]
 clear hX hH1
 go_upto_region 3 with fail
 refine wp_region_held_drew (S:=fun u => u.cell? ⟨w.heap.size,0,none⟩ = some (.float .f64 x) ∧ u.cell? ⟨w.heap.size,1,none⟩ = some (.float .f64 y)) (by kernel_rfl) (HS.out _ kd) (fun hHeld => ?_)
 refine tk (i:=0) (v:=?_) rfl ?_
 simp only [Act.put,zA,zB,zC,zD,zE,zF]
 refine tk (i:=1) (v:=?_) rfl ?_
 simp only [Act.put,zA,zB,zC,zD,zE,zF]
 refine tk (i:=2) (v:=?_) rfl ?_
 simp only [Act.put,zA,zB,zC,zD,zE,zF]
 refine tk (i:=4) (v:=?_) rfl ?_
 simp only [Act.put,zA,zB,zC,zD,zE,zF]
 refine tk (i:=5) (v:=?_) rfl ?_
 simp only [Act.put,zA,zB,zC,zD,zE,zF]
 refine tk (i:=6) (v:=?_) rfl ?_
 simp only [Act.put,zA,zB,zC,zD,zE,zF]
 refine wpAnyH_ready (rs:=[3]) (by kernel_rfl) (by simp) ?_
 refine AllReadyH.cons rfl (fun K hK9 => ?_) AllReadyH.nil
 go_simp
 go_wp2_with fail
 refine (KP.out _ _ _ (.inl ⟨rfl,rfl⟩) kd).mono ?_
 rintro e u1 ⟨rfl,k1,j1⟩
 have e1:=HS.out _ k1
 refine hK9.out _ _ e1 (fun hHeld1 => ?_)
 clear hK9 K
 refine wpAnyH_ready (rs:=[7]) (by kernel_rfl) (by simp) ?_
 refine AllReadyH.cons rfl (fun K hK9 => ?_) AllReadyH.nil
 go_simp
 go_wp2_with fail
 refine (KP.out _ _ _ (.inr ⟨rfl,rfl⟩) k1).mono ?_
 rintro e u2 ⟨rfl,k2,j2⟩
 have e2:=HS.out _ k2
 refine hK9.out _ _ e2 (fun hHeld2 => ?_)
 clear hK9 K
 refine tk (i:=8) (v:=?_) rfl ?_
 simp only [Act.put,zA,zB,zC,zD,zE,zF]
 obtain ⟨c0,c1,cf⟩:=HQ.out _ k2
 refine wpAnyH_ready (rs:=[9]) (by kernel_rfl) (by simp) ?_
 refine AllReadyH.cons rfl (fun K hK9 => ?_) AllReadyH.nil
 go_simp
 have e3:=((hP.kept k2).set H1 0 n1 (.int .i64 p)).set H1 1 n1 (.int .i64 q)
 refine hK9.out _ _ ⟨e3.c0,e3.c1⟩ (fun hHeld3 => ?_)
 clear hK9 K
 refine tk (i:=10) (v:=?_) rfl ?_
 simp only [Act.put,zA,zB,zC,zD,zE,zF]
 refine wpAnyH_done (by kernel_rfl) ?_ _
 go_wp2_with fail
 have hz:=(P2.mk c0 c1 cf).put (.int .i64 p) (.int .i64 q)
 obtain ⟨d0,d1,df⟩:=hz
 exact bodyPost_ret (v:=.tuple #[sp2 p q,.int .i64 0]) (by simp [results,Tryz.results68,go_sem,d0,d1]) rfl ⟨rfl,((hK.trans k2).setCell o1 _).setCell o1 _⟩
theorem point_any (x : Nat) (w : World) : Calls Tryz.prog 77 #[.float .f64 x] w fun e w' => e = .returned (fv2 x x) ∧ Kept w w':=by
 have hSF:=sto_f
 go_enter Tryz.func77,Tryz.ntmps77
 go_wp2_with fail
 refine bodyPost_ret (v:=fv2 x x) (by simp [results,Tryz.results77,go_sem]) rfl ⟨rfl,?_⟩
 (repeat' first | exact Kept.refl _ | refine Kept.setCell ?_ ?_ _ | refine Kept.alloc ?_ _ _ | (simp; done) | (simp <;> omega))
/-- number's error and float -/
def nmE (b n : Int) : Int:=if n = 64 ∨ n = 32 then (if fin b n = true then 0 else 6) else 3
def nmF (b n : Int) : Nat:=if fin b n = true then flv b n else 0
theorem fin_key (b n : Int) (hn : n = 64 ∨ n = 32) (hi : isnum b n = true) (h1 : RB b) : fin b n = decide (¬ (keyOf b n = (ifn n : Int) ∨ keyOf b n = -(ifn n : Int))):=by
 have hc : cls b n ≠ 4:=by
  unfold isnum at hi
  rw [decide_eq_true_eq] at hi
  exact hi.2
 unfold fin
 rw [Bool.eq_iff_iff,decide_eq_true_eq,decide_eq_true_eq]
 rcases hn with rfl | rfl
 ·have hm:=(num64_iff b).1 hi
  have i1 : (ifn 64 : Int) = 9218868437227405312:=by decide
  rw [key64_is,i1]
  unfold cls clsOf
  simp only [if_pos]
  unfold RB at h1
  split <;> (repeat' split) <;> simp <;> omega
 ·have hm:=(num32_iff b).1 hi
  have i1 : (ifn 32 : Int) = 2139095040:=by decide
  rw [key32_is,i1]
  unfold cls clsOf
  rw [if_neg (by decide : ¬ (32 : Int) = 64),if_pos rfl,if_pos hm.1]
  split <;> (repeat' split) <;> simp <;> omega
theorem number_walk (b n : Int) (x : Nat) (v t1 t2 : Bool) (w : World)
  (KF : Hid (∀ u,Calls Tryz.prog 125 #[.int .i64 b,.int .i64 n] u fun e w' => e = .returned (.float .f64 x) ∧ Kept u w'))
  (KV : Hid (∀ u,Calls Tryz.prog 75 #[.int .i64 0,.int .i64 n] u fun e w' => e = .returned (.bool v) ∧ u = w'))
  (KN : Hid (∀ u,Calls Tryz.prog 142 #[.float .f64 x] u fun e w' => e = .returned (.bool t1) ∧ u = w'))
  (KI : Hid (t1 = false → ∀ u,Calls Tryz.prog 122 #[.float .f64 x,.int .i64 0] u fun e w' => e = .returned (.bool t2) ∧ u = w')) :
  Calls Tryz.prog 90 #[.int .i64 b,.int .i64 n] w fun e w' => e = .returned (if v = false then .tuple #[.float .f64 0,.int .i64 3] else if (t1 || t2) = true then .tuple #[.float .f64 0,.int .i64 6] else .tuple #[.float .f64 x,.int .i64 0]) ∧ Kept w w':=by
 cases v
 ·go_enter Tryz.func90,Tryz.ntmps90
  go_wp2_with (first | (go_at_call 125; refine (KF.out _).mono ?_; rintro e w1 ⟨rfl,k1⟩) | (go_at_call 75; refine (KV.out _).mono ?_; rintro e w2 ⟨rfl,rfl⟩))
  exact bodyPost_ret (v:=.tuple #[.float .f64 0,.int .i64 3]) (by simp [results,Tryz.results90,go_sem]) rfl ⟨rfl,k1⟩
 ·cases t1
  ·have KI' : Hid (∀ u,Calls Tryz.prog 122 #[.float .f64 x,.int .i64 0] u fun e w' => e = .returned (.bool t2) ∧ u = w'):=KI.out rfl
   clear KI
   cases t2
   ·go_enter Tryz.func90,Tryz.ntmps90
    go_wp2_with (first | (go_at_call 125; refine (KF.out _).mono ?_; rintro e w1 ⟨rfl,k1⟩) | (go_at_call 75; refine (KV.out _).mono ?_; rintro e w2 ⟨rfl,rfl⟩) | (go_at_call 142; refine (KN.out _).mono ?_; rintro e w3 ⟨rfl,rfl⟩) | (go_at_call 122; refine (KI'.out _).mono ?_; rintro e w4 ⟨rfl,rfl⟩))
    exact bodyPost_ret (v:=.tuple #[.float .f64 x,.int .i64 0]) (by simp [results,Tryz.results90,go_sem]) rfl ⟨rfl,k1⟩
   ·go_enter Tryz.func90,Tryz.ntmps90
    go_wp2_with (first | (go_at_call 125; refine (KF.out _).mono ?_; rintro e w1 ⟨rfl,k1⟩) | (go_at_call 75; refine (KV.out _).mono ?_; rintro e w2 ⟨rfl,rfl⟩) | (go_at_call 142; refine (KN.out _).mono ?_; rintro e w3 ⟨rfl,rfl⟩) | (go_at_call 122; refine (KI'.out _).mono ?_; rintro e w4 ⟨rfl,rfl⟩))
    exact bodyPost_ret (v:=.tuple #[.float .f64 0,.int .i64 6]) (by simp [results,Tryz.results90,go_sem]) rfl ⟨rfl,k1⟩
  ·clear KI
   go_enter Tryz.func90,Tryz.ntmps90
   go_wp2_with (first | (go_at_call 125; refine (KF.out _).mono ?_; rintro e w1 ⟨rfl,k1⟩) | (go_at_call 75; refine (KV.out _).mono ?_; rintro e w2 ⟨rfl,rfl⟩) | (go_at_call 142; refine (KN.out _).mono ?_; rintro e w3 ⟨rfl,rfl⟩))
   exact bodyPost_ret (v:=.tuple #[.float .f64 0,.int .i64 6]) (by simp [results,Tryz.results90,go_sem]) rfl ⟨rfl,k1⟩
theorem number_any (b n : Int) (h1 : RB b) (w : World) : Calls Tryz.prog 90 #[.int .i64 b,.int .i64 n] w fun e w' => e = .returned (.tuple #[.float .f64 (nmF b n),.int .i64 (nmE b n)]) ∧ Kept w w':=by
 have KF : Hid (∀ u,Calls Tryz.prog 125 #[.int .i64 b,.int .i64 n] u fun e w' => e = .returned (.float .f64 (flv b n)) ∧ Kept u w'):=fun u => sfloat_any b n h1.1 h1.2 u
 have KN : Hid (∀ u,Calls Tryz.prog 142 #[.float .f64 (flv b n)] u fun e w' => e = .returned (.bool (decide (FloatKind.f64.format.infRung < rung FloatKind.f64.format (flv b n)))) ∧ u = w'):=fun u => isNaN_any _ u
 by_cases hn : n = 64 ∨ n = 32
 ·have KV : Hid (∀ u,Calls Tryz.prog 75 #[.int .i64 0,.int .i64 n] u fun e w' => e = .returned (.bool true) ∧ u = w'):=fun u => by
   have:=valid_any 0 n u
   rw [show val 0 n = true by rcases hn with rfl | rfl <;> decide] at this
   exact this
  by_cases hi : isnum b n = true
  ·have f:=Fl.flv hi h1.1 h1.2
   have hle:=f.le
   rw [decide_eq_false (by omega)] at KN
   refine (number_walk b n (flv b n) true false (decide (keyOf b n = (ifn n : Int) ∨ keyOf b n = -(ifn n : Int))) w KF KV KN (fun _ u => isInf_0 f u)).mono ?_
   rintro e w' ⟨rfl,k⟩
   refine ⟨?_,k⟩
   have hf:=fin_key b n hn hi h1
   unfold nmF nmE
   rw [if_neg (by decide),if_pos hn,hf]
   by_cases g : keyOf b n = (ifn n : Int) ∨ keyOf b n = -(ifn n : Int)
   ·simp [g]
   ·simp [g]
  ·have hi' : isnum b n = false:=by simpa using hi
   have hnan:=flv_nan b n hn hi'
   rw [decide_eq_true hnan] at KN
   refine (number_walk b n (flv b n) true true false w KF KV KN (fun h => by cases h)).mono ?_
   rintro e w' ⟨rfl,k⟩
   refine ⟨?_,k⟩
   have hf : fin b n = false:=by
    have hc : cls b n = 4:=by
     unfold isnum at hi'
     rw [decide_eq_false_iff_not] at hi'
     exact Classical.not_not.1 (fun g => hi' ⟨hn,g⟩)
    unfold fin
    rw [hc]
    simp
   unfold nmF nmE
   rw [if_neg (by decide),if_pos hn,hf]
   simp
 ·have KV : Hid (∀ u,Calls Tryz.prog 75 #[.int .i64 0,.int .i64 n] u fun e w' => e = .returned (.bool false) ∧ u = w'):=fun u => valid_0 0 n (by simp; omega) (by simp; omega) u
  have hx : flv b n = 0:=by
   unfold flv
   rw [if_neg (by simp [isnum_0 b n (by omega) (by omega)]),if_neg hn]
  rw [hx] at KN KF
  rw [show decide (FloatKind.f64.format.infRung < rung FloatKind.f64.format 0) = false by decide +kernel] at KN
  refine (number_walk b n 0 false false _ w KF KV KN (fun _ u => isInf_0 (Fl.zero 64 (.inl rfl)) u)).mono ?_
  rintro e w' ⟨rfl,k⟩
  refine ⟨?_,k⟩
  have hf : fin b n = false:=by
   unfold fin
   rw [decide_eq_false_iff_not]
   exact fun g => hn g.1
  unfold nmF nmE
  rw [if_pos rfl,if_neg hn,hf]
  simp
def mnL (k : Int) (f : Nat → Int) : Nat → Int
 | 0 => k
 | m + 1 => min (mnL k f m) (f m)
def mxL (k : Int) (f : Nat → Int) : Nat → Int
 | 0 => k
 | m + 1 => max (mxL k f m) (f m)
/-- the intervals of a slice,as they lie -/
def Ivs (w : World) (ao : Option Addr) (m : Nat) (fx fy : Nat → Nat) : Prop:=∀ u,Kept w u → ∀ i,i < m → ∃ b off,ao = some ⟨b,off,none⟩ ∧ u.cell? ⟨b,off + i * 2,none⟩ = some (.float .f64 (fx i)) ∧ u.cell? ⟨b,off + i * 2 + 1,none⟩ = some (.float .f64 (fy i))
theorem joined_any (n : Int) (x0 y0 : Nat) (k0 j0 : Int) (hx : Fl n x0 k0) (hy : Fl n y0 j0) (m : Nat) (hm : m < 100000) (fx fy : Nat → Nat) (fk fj : Nat → Int) (hF : ∀ i,i < m → Fl n (fx i) (fk i) ∧ Fl n (fy i) (fj i)) (ao : Option Addr) (c : Nat) (w : World) (hI : Ivs w ao m fx fy) :
  Calls Tryz.prog 74 #[fv2 x0 y0,.slice ao m c] w fun e w' => ∃ x y,e = .returned (fv2 x y) ∧ Fl n x (mnL k0 fk m) ∧ Fl n y (mxL j0 fj m) ∧ Kept w w':=by
 have HI : Hid (Ivs w ao m fx fy):=hI
 have HF : Hid (∀ i,i < m → Fl n (fx i) (fk i) ∧ Fl n (fy i) (fj i)):=hF
 have HX : Hid (Fl n x0 k0):=hx
 have HY : Hid (Fl n y0 j0):=hy
 clear hI hF hx hy
 have hSF:=sto_f
 obtain ⟨X,hX⟩ : ∃ X,X = (w.alloc (.cells #[.float .f64 x0,.float .f64 y0] 87)).alloc (.cells #[.float .f64 0,.float .f64 0] 87):=⟨_,rfl⟩
 have hP : P2 X w.heap.size (.float .f64 x0) (.float .f64 y0):=by
  rw [hX]
  exact (P2.new w _ _ _).alloc _ _
 have hQ : P2 X (w.heap.size + 1) (.float .f64 0) (.float .f64 0):=by
  rw [hX]
  have:=P2.new (w.alloc (.cells #[.float .f64 x0,.float .f64 y0] 87)) (.float .f64 0) (.float .f64 0) 87
  simpa using this
 have hK : Kept w X:=by
  rw [hX]
  exact ((Kept.refl w).alloc _ _).alloc _ _
 obtain ⟨H0,hH0⟩ : ∃ H,H = w.heap.size:=⟨_,rfl⟩
 obtain ⟨H1,hH1⟩ : ∃ H,H = H0 + 1:=⟨_,rfl⟩
 rw [← hH0,← hH1] at hQ
 rw [← hH0] at hP
 have o0 : w.heap.size ≤ H0:=by omega
 have o1 : w.heap.size ≤ H1:=by omega
 have n1 : ¬ H1 = H0:=by omega
 have n2 : ¬ H0 = H1:=by omega
 go_enter Tryz.func74,Tryz.ntmps74
 go_upto_region 1 with fail
 rw [← hX,← hH0,← hH1]
 clear hX hH1 hH0
 go_wp2_with fail
 go_loopw [9] (fun i wr => ∃ (k : Nat) (x y : Nat),k ≤ m ∧ i = .int .i64 k ∧ Fl n x (mnL k0 fk k) ∧ Fl n y (mxL j0 fj k) ∧ P2 wr H0 (.float .f64 x) (.float .f64 y) ∧ P2 wr H1 (.float .f64 0) (.float .f64 0) ∧ Kept w wr) (fun i _ => m - (intOf i).toNat)
 case atStart => exact ⟨0,x0,y0,Nat.zero_le _,rfl,HX.out,HY.out,hP,hQ,hK⟩
 case round =>
  clear hP hQ hK
  obtain ⟨k,x,y,hk,rfl,fx1,fy1,hP,hQ,hK⟩:=hrel
  by_cases hkm : k < m
  ·obtain ⟨b,off,rfl,ci0,ci1⟩:=HI.out _ hK k hkm
   obtain ⟨g1,g2⟩:=HF.out k hkm
   obtain ⟨z1,hz1,r1⟩:=run_min_lt (P:=Tryz.prog) n x (fx k) _ _ fx1 g1
   obtain ⟨z2,hz2,r2⟩:=run_max_lt (P:=Tryz.prog) n y (fy k) _ _ fy1 g2
   have Hz : Hid (Fl n z1 (mnL k0 fk (k + 1)) ∧ Fl n z2 (mxL j0 fj (k + 1))):=⟨hz1,hz2⟩
   clear g1 g2 hz1 hz2 fx1 fy1
   generalize fx k = xk at *
   generalize fy k = yk at *
   have hPk:=(hP.put (.float .f64 z1) (.float .f64 z2)).alloc #[.float .f64 xk,.float .f64 yk] 87
   have hQk:=((hQ.set H0 0 n2 (.float .f64 z1)).set H0 1 n2 (.float .f64 z2)).alloc #[.float .f64 xk,.float .f64 yk] 87
   have hKk:=((hK.setCell (p:=⟨H0,0,none⟩) o0 (.float .f64 z1)).setCell (p:=⟨H0,1,none⟩) o0 (.float .f64 z2)).alloc #[.float .f64 xk,.float .f64 yk] 87
   have lt0:=hP.lt
   have lt1:=hQ.lt
   obtain ⟨p0,p1,pf⟩:=hP
   go_wp2_with fail
   go_roundw
   case rel => exact ⟨k + 1,z1,z2,by omega,by go_num,Hz.out.1,Hz.out.2,hPk,hQk,hKk⟩
   case measure => simp [intOf]; omega
  ·have hkm' : k = m:=by omega
   subst hkm'
   have hz:=hQ.put (.float .f64 x) (.float .f64 y)
   obtain ⟨d0,d1,df⟩:=hz
   obtain ⟨p0,p1,pf⟩:=hP
   obtain ⟨q0,q1,qf⟩:=hQ
   go_wp2_with fail
   exact bodyPost_ret (v:=fv2 x y) (by simp [results,Tryz.results74,go_sem,d0,d1]) rfl ⟨x,y,rfl,fx1,fy1,(hK.setCell o1 _).setCell o1 _⟩
theorem ivs_one {w u : World} {x y : Nat} {t : TypeId} (k : Kept (w.alloc (.cells #[.float .f64 x,.float .f64 y] t)) u) : Ivs u (some ⟨w.heap.size,0,none⟩) 1 (fun _ => x) (fun _ => y):=fun v kv i hi => by
 have h:=(P2.newk (k.trans kv))
 refine ⟨_,_,rfl,?_,?_⟩
 ·rw [show 0 + i * 2 = 0 by omega]; exact h.c0
 ·rw [show 0 + i * 2 + 1 = 1 by omega]; exact h.c1
theorem eq_f (d a b : Nat) (w : World) : (Op.equalIn (d + 1) 85 (.float .f64 a) (.float .f64 b)).run Tryz.prog w = .ok (FloatKind.f64.format.order a b == some .eq) w:=by
 have h : Tryz.prog.underlying 85 = some (.float .f64):=by kernel_rfl
 simp [Op.equalIn,run_underlying h,Op.floatEq]
theorem eql_iv (a b c d : Nat) (w : World) : (binOp .eql 87 (.agg #[.float .f64 a,.float .f64 b]) (.agg #[.float .f64 c,.float .f64 d])).run Tryz.prog w = .ok (.bool (FloatKind.f64.format.order a c == some .eq && FloatKind.f64.format.order b d == some .eq)) w:=by
 have h:=eq_f
 rw [run_eql_struct]
 cases hb : (FloatKind.f64.format.order a c == some .eq)
 ·go_simp
 ·cases hc : (FloatKind.f64.format.order b d == some .eq) <;> go_simp
/- whether all of another one is in it -/
theorem holds_any (n : Int) (x0 y0 x1 y1 : Nat) (k0 j0 k1 j1 : Int) (hx : Fl n x0 k0) (hy : Fl n y0 j0) (gx : Fl n x1 k1) (gy : Fl n y1 j1) (w : World) :
  Calls Tryz.prog 76 #[fv2 x0 y0,fv2 x1 y1] w fun e w' => e = .returned (.bool (decide (k0 ≤ k1 ∧ j1 ≤ j0))) ∧ Kept w w':=by
 obtain ⟨X,hX⟩ : ∃ X,X = (w.alloc (.cells #[.float .f64 x0,.float .f64 y0] 87)).alloc (.cells #[.float .f64 x1,.float .f64 y1] 87):=⟨_,rfl⟩
 have hP : P2 X w.heap.size (.float .f64 x0) (.float .f64 y0):=by
  rw [hX]
  exact (P2.new w _ _ _).alloc _ _
 have hQ : P2 X (w.heap.size + 1) (.float .f64 x1) (.float .f64 y1):=by
  rw [hX]
  have:=P2.new (w.alloc (.cells #[.float .f64 x0,.float .f64 y0] 87)) (.float .f64 x1) (.float .f64 y1) 87
  simpa using this
 have hK : Kept w X:=by
  rw [hX]
  exact ((Kept.refl w).alloc _ _).alloc _ _
 have KJ : Hid (∀ (u v : World) (B : Nat),B = v.heap.size → Kept (v.alloc (.cells #[.float .f64 x1,.float .f64 y1] 87)) u → Kept X u → Calls Tryz.prog 74 #[fv2 x0 y0,.slice (some ⟨B,0,none⟩) 1 1] u fun e w' => ∃ x y,e = .returned (fv2 x y) ∧ (FloatKind.f64.format.order x x0 == some .eq && FloatKind.f64.format.order y y0 == some .eq) = decide (k0 ≤ k1 ∧ j1 ≤ j0) ∧ Kept X w' ∧ Kept u w'):=fun u v B hB k kX => by
  subst hB
  refine (joined_any n x0 y0 k0 j0 hx hy 1 (by decide) (fun _ => x1) (fun _ => y1) (fun _ => k1) (fun _ => j1) (fun _ _ => ⟨gx,gy⟩) _ _ u (ivs_one k)).mono ?_
  rintro e w' ⟨x,y,rfl,h1,h2,k'⟩
  refine ⟨x,y,rfl,?_,kX.trans k',k'⟩
  rw [h1.ord hx,h2.ord hy,cmp_is_eq,cmp_is_eq]
  have e1 : mnL k0 (fun _ => k1) 1 = min k0 k1:=rfl
  have e2 : mxL j0 (fun _ => j1) 1 = max j0 j1:=rfl
  rw [e1,e2,Bool.eq_iff_iff,Bool.and_eq_true,decide_eq_true_eq,decide_eq_true_eq,decide_eq_true_eq]
  omega
 clear hx hy gx gy
 generalize decide (k0 ≤ k1 ∧ j1 ≤ j0) = t at *
 go_enter Tryz.func76,Tryz.ntmps76
 go_upto_region 1 with fail
 rw [← hX]
 clear hX
 have kd : Kept X X.drew:=(Kept.refl X).drew
 have hEI:=eql_iv
 have HS : Hid (∀ u,Kept X u → Kept X u ∧ (u.cell? ⟨w.heap.size,0,none⟩ = some (.float .f64 x0) ∧ u.cell? ⟨w.heap.size,1,none⟩ = some (.float .f64 y0)) ∧ (u.cell? ⟨w.heap.size + 1,0,none⟩ = some (.float .f64 x1) ∧ u.cell? ⟨w.heap.size + 1,1,none⟩ = some (.float .f64 y1))):=fun u k => ⟨k,⟨(hP.kept k).c0,(hP.kept k).c1⟩,⟨(hQ.kept k).c0,(hQ.kept k).c1⟩⟩
 go_region_held (fun u => Kept X u ∧ (u.cell? ⟨w.heap.size,0,none⟩ = some (.float .f64 x0) ∧ u.cell? ⟨w.heap.size,1,none⟩ = some (.float .f64 y0)) ∧ (u.cell? ⟨w.heap.size + 1,0,none⟩ = some (.float .f64 x1) ∧ u.cell? ⟨w.heap.size + 1,1,none⟩ = some (.float .f64 y1))) (first | assumption | exact HS.out _ kd | exact HS.out _ (by assumption) | exact HS.out _ (by repeat' first | assumption | refine Kept.alloc ?_ _ _ | refine Kept.drew ?_ | exact Kept.refl _)) (first | (go_at_call 74; refine (KJ.out _ _ _ rfl (by first | exact Kept.refl _ | exact (Kept.refl _).drew) (by repeat' first | assumption | refine Kept.alloc ?_ _ _ | refine Kept.drew ?_ | exact Kept.refl _)).mono ?_; rintro e w1 ⟨x,y,rfl,hxy,k1,j1⟩))
 go_wp2_with fail
 go_ret
 exact ⟨rfl,hK.trans k1⟩
end Go.Proofs.YtdhimkpfnhoagaaGreatDoor
