/- Package span: two ends outward; crossed. Package span: crossed over two intervals. -/
import Derived.Test.YtdhimkpfnhoagaaGreatDoorWo35
namespace Go.Proofs.YtdhimkpfnhoagaaGreatDoor
open Go.ChangeShapes Go.WideShapes Go.ChangeAt Go.RowKit Ieee
set_option linter.unusedVariables false
set_option linter.unusedSimpArgs false
set_option maxHeartbeats 16000000
set_option maxRecDepth 100000
theorem outward_any (op : Nat) (hcall : ∀ a b c d w,(callFunc op #[a,b,c,d]).run Tryz.prog w = .ok (.enter op #[a,b,c,d]) w) (n : Int) (x y z1 z2 : Nat) (w : World) (P Q : Nat) (hP : w.cell? ⟨P,0,none⟩ = some (.func (.func op) #[] #[])) (hQ : w.cell? ⟨Q,0,none⟩ = some (.int .i64 n)) (lP : P < w.heap.size) (lQ : Q < w.heap.size)
  (KO : Hid (∀ u way z,Kept w u → (way = 1 ∧ z = z1 ∨ way = 2 ∧ z = z2) → Calls Tryz.prog op #[.float .f64 x,.float .f64 y,.int .i64 n,.int .i64 way] u fun e w' => e = .returned (.float .f64 z) ∧ Kept u w')) :
  Calls Tryz.prog 120 #[.float .f64 x,.float .f64 y,.pointer (some ⟨P,0,none⟩),.pointer (some ⟨Q,0,none⟩)] w fun e w' => e = .returned (fv2 z1 z2) ∧ Kept w w':=by
 have hSF:=sto_f
 obtain ⟨X,hX⟩ : ∃ X,X = w.alloc (.cells #[.float .f64 0,.float .f64 0] 87):=⟨_,rfl⟩
 have hR : P2 X w.heap.size (.float .f64 0) (.float .f64 0):=by rw [hX]; exact P2.new _ _ _ _
 have hK : Kept w X:=by rw [hX]; exact (Kept.refl w).alloc _ _
 obtain ⟨H,hH⟩ : ∃ H,H = w.heap.size:=⟨_,rfl⟩
 rw [← hH] at hR
 have oH : w.heap.size ≤ H:=by omega
 have nP : H ≠ P:=by omega
 have nQ : H ≠ Q:=by omega
 have HS : Hid (∀ u,Kept w u → u.cell? ⟨P,0,none⟩ = some (.func (.func op) #[] #[]) ∧ u.cell? ⟨Q,0,none⟩ = some (.int .i64 n)):=fun u k => ⟨(k.below.cell (p:=⟨P,0,none⟩) lP).trans hP,(k.below.cell (p:=⟨Q,0,none⟩) lQ).trans hQ⟩
 clear hP hQ
 go_enter Tryz.func120,Tryz.ntmps120
 go_upto_region 1 with fail
 rw [← hX,← hH]
 clear hX hH
 have kd : Kept X X.drew:=(Kept.refl X).drew
 have e0:=HS.out _ (hK.trans kd)
 refine wp_region_held_drew (S:=fun u => u.cell? ⟨P,0,none⟩ = some (.func (.func op) #[] #[]) ∧ u.cell? ⟨Q,0,none⟩ = some (.int .i64 n)) (by kernel_rfl) (e0) (fun hHeld => ?_)
 refine tk (i:=0) (v:=?_) rfl ?_
 simp only [Act.put,zA,zB,zC,zD,zE,zF]
 refine tk (i:=1) (v:=?_) rfl ?_
 simp only [Act.put,zA,zB,zC,zD,zE,zF]
 refine tk (i:=2) (v:=?_) rfl ?_
 simp only [Act.put,zA,zB,zC,zD,zE,zF]
 refine tk (i:=3) (v:=?_) rfl ?_
 simp only [Act.put,zA,zB,zC,zD,zE,zF]
 refine tk (i:=5) (v:=?_) rfl ?_
 simp only [Act.put,zA,zB,zC,zD,zE,zF]
 refine tk (i:=6) (v:=?_) rfl ?_
 simp only [Act.put,zA,zB,zC,zD,zE,zF]
 refine tk (i:=7) (v:=?_) rfl ?_
 simp only [Act.put,zA,zB,zC,zD,zE,zF]
 refine tk (i:=8) (v:=?_) rfl ?_
 simp only [Act.put,zA,zB,zC,zD,zE,zF]
 refine wpAnyH_ready (rs:=[4]) (by kernel_rfl) (by simp) ?_
 refine AllReadyH.cons rfl (fun K hK9 => ?_) AllReadyH.nil
 go_simp
 go_wp2_with fail
 refine (KO.out _ _ _ (hK.trans kd) (.inl ⟨rfl,rfl⟩)).mono ?_
 rintro e u1 ⟨rfl,k1⟩
 have j1:=kd.trans k1
 have e1:=HS.out _ (hK.trans j1)
 refine hK9.out _ _ e1 (fun hHeld1 => ?_)
 clear hK9 K
 refine wpAnyH_ready (rs:=[9]) (by kernel_rfl) (by simp) ?_
 refine AllReadyH.cons rfl (fun K hK9 => ?_) AllReadyH.nil
 go_simp
 go_wp2_with fail
 refine (KO.out _ _ _ (hK.trans j1) (.inr ⟨rfl,rfl⟩)).mono ?_
 rintro e u2 ⟨rfl,k2⟩
 have j2:=j1.trans k2
 have e2:=HS.out _ (hK.trans j2)
 refine hK9.out _ _ e2 (fun hHeld2 => ?_)
 clear hK9 K
 refine tk (i:=10) (v:=?_) rfl ?_
 simp only [Act.put,zA,zB,zC,zD,zE,zF]
 obtain ⟨c0,c1,cf⟩:=hR.kept j2
 refine wpAnyH_ready (rs:=[11]) (by kernel_rfl) (by simp) ?_
 refine AllReadyH.cons rfl (fun K hK9 => ?_) AllReadyH.nil
 go_simp
 have e3:=HS.out _ (((hK.trans j2).setCell (p:=⟨H,0,none⟩) oH (.float .f64 z1)).setCell (p:=⟨H,1,none⟩) oH (.float .f64 z2))
 refine hK9.out _ _ e3 (fun hHeld3 => ?_)
 clear hK9 K
 refine wpAnyH_done (by kernel_rfl) ?_ _
 go_wp2_with fail
 have hz:=(P2.mk c0 c1 cf).put (.float .f64 z1) (.float .f64 z2)
 obtain ⟨d0,d1,df⟩:=hz
 exact bodyPost_ret (v:=fv2 z1 z2) (by simp [results,Tryz.results120,go_sem,d0,d1]) rfl ⟨rfl,((hK.trans j2).setCell oH _).setCell oH _⟩
/-- eight cells of a block -/
structure E8 (w : World) (B : Nat) (v0 v1 v2 v3 v4 v5 v6 v7 : Value) : Prop where
 c0 : w.cell? ⟨B,0,none⟩ = some v0
 c1 : w.cell? ⟨B,1,none⟩ = some v1
 c2 : w.cell? ⟨B,2,none⟩ = some v2
 c3 : w.cell? ⟨B,3,none⟩ = some v3
 c4 : w.cell? ⟨B,4,none⟩ = some v4
 c5 : w.cell? ⟨B,5,none⟩ = some v5
 c6 : w.cell? ⟨B,6,none⟩ = some v6
 c7 : w.cell? ⟨B,7,none⟩ = some v7
 fz : ∀ o,w.frozen? ⟨B,o,none⟩ = false
theorem E8.new (w : World) (v0 v1 v2 v3 v4 v5 v6 v7 : Value) (t : TypeId) : E8 (w.alloc (.cells #[v0,v1,v2,v3,v4,v5,v6,v7] t)) w.heap.size v0 v1 v2 v3 v4 v5 v6 v7:=⟨by simp [go_sem],by simp [go_sem],by simp [go_sem],by simp [go_sem],by simp [go_sem],by simp [go_sem],by simp [go_sem],by simp [go_sem],fun o => by simp [go_sem]⟩
theorem E8.lt {w : World} {B : Nat} {v0 v1 v2 v3 v4 v5 v6 v7 : Value} (h : E8 w B v0 v1 v2 v3 v4 v5 v6 v7) : B < w.heap.size:=by
 have:=h.c0
 by_cases hb : B < w.heap.size
 ·exact hb
 ·have hg : w.heap[B]? = none:=by simp at hb ⊢; omega
  simp [World.cell?,hg] at this
theorem E8.kept {w w' : World} {B : Nat} {v0 v1 v2 v3 v4 v5 v6 v7 : Value} (h : E8 w B v0 v1 v2 v3 v4 v5 v6 v7) (k : Kept w w') : E8 w' B v0 v1 v2 v3 v4 v5 v6 v7:=by
 have l:=h.lt
 exact ⟨(k.below.cell (p:=⟨B,0,none⟩) l).trans h.c0,(k.below.cell (p:=⟨B,1,none⟩) l).trans h.c1,(k.below.cell (p:=⟨B,2,none⟩) l).trans h.c2,(k.below.cell (p:=⟨B,3,none⟩) l).trans h.c3,(k.below.cell (p:=⟨B,4,none⟩) l).trans h.c4,(k.below.cell (p:=⟨B,5,none⟩) l).trans h.c5,(k.below.cell (p:=⟨B,6,none⟩) l).trans h.c6,(k.below.cell (p:=⟨B,7,none⟩) l).trans h.c7,fun o => (k.frozen _).trans (h.fz o)⟩
abbrev put8 (w : World) (B : Nat) (v0 v1 v2 v3 v4 v5 v6 v7 : Value) : World:=(((((((w.setCell ⟨B,0,none⟩ v0).setCell ⟨B,1,none⟩ v1).setCell ⟨B,2,none⟩ v2).setCell ⟨B,3,none⟩ v3).setCell ⟨B,4,none⟩ v4).setCell ⟨B,5,none⟩ v5).setCell ⟨B,6,none⟩ v6).setCell ⟨B,7,none⟩ v7
theorem E8.put {w : World} {B : Nat} {v0 v1 v2 v3 v4 v5 v6 v7 : Value} (h : E8 w B v0 v1 v2 v3 v4 v5 v6 v7) (u0 u1 u2 u3 u4 u5 u6 u7 : Value) : E8 (put8 w B u0 u1 u2 u3 u4 u5 u6 u7) B u0 u1 u2 u3 u4 u5 u6 u7:=by
 obtain ⟨c0,c1,c2,c3,c4,c5,c6,c7,fz⟩:=h
 exact ⟨by simp [go_sem, *],by simp [go_sem, *],by simp [go_sem, *],by simp [go_sem, *],by simp [go_sem, *],by simp [go_sem, *],by simp [go_sem, *],by simp [go_sem, *],fun o => by simp [World.frozen?_setCell, *]⟩
theorem E8.newk {w u : World} {v0 v1 v2 v3 v4 v5 v6 v7 : Value} {t : TypeId} (k : Kept (w.alloc (.cells #[v0,v1,v2,v3,v4,v5,v6,v7] t)) u) : E8 u w.heap.size v0 v1 v2 v3 v4 v5 v6 v7:=(E8.new w _ _ _ _ _ _ _ _ t).kept k
theorem E8.newe {w u : World} {v0 v1 v2 v3 v4 v5 v6 v7 : Value} {t : TypeId} (k : Kept (w.alloc (.cells #[v0,v1,v2,v3,v4,v5,v6,v7] t)).drew u) : E8 u w.heap.size v0 v1 v2 v3 v4 v5 v6 v7:=E8.newk (((Kept.refl _).drew).trans k)
theorem Kept.put8 {a b : World} (h : Kept a b) {B : Nat} (hB : a.heap.size ≤ B) (v0 v1 v2 v3 v4 v5 v6 v7 : Value) : Kept a (put8 b B v0 v1 v2 v3 v4 v5 v6 v7) :=
 (((((((h.setCell hB _).setCell hB _).setCell hB _).setCell hB _).setCell hB _).setCell hB _).setCell hB _).setCell hB _
theorem crossed2_walk (a1 b1 a2 b2 : Nat) (d0 u0 d1 u1 d2 u2 d3 u3 : Nat) (R P Q : Nat) (w : World) (J : Nat → Nat → Prop) (lR : R < w.heap.size) (hR : w.cell? ⟨R,0,none⟩ = some (.func (.func 120) #[] #[.pointer (some ⟨P,0,none⟩),.pointer (some ⟨Q,0,none⟩)]))
  (KC : Hid (∀ u x y z1 z2,(x = a1 ∧ y = a2 ∧ z1 = d0 ∧ z2 = u0 ∨ x = a1 ∧ y = b2 ∧ z1 = d1 ∧ z2 = u1 ∨ x = b1 ∧ y = a2 ∧ z1 = d2 ∧ z2 = u2 ∨ x = b1 ∧ y = b2 ∧ z1 = d3 ∧ z2 = u3) → Kept w u → Calls Tryz.prog 120 #[.float .f64 x,.float .f64 y,.pointer (some ⟨P,0,none⟩),.pointer (some ⟨Q,0,none⟩)] u fun e w' => e = .returned (fv2 z1 z2) ∧ Kept u w'))
  (KJ : Hid (∀ (u : World) (B : Nat),Kept w u → E8 u B (.float .f64 d0) (.float .f64 u0) (.float .f64 d1) (.float .f64 u1) (.float .f64 d2) (.float .f64 u2) (.float .f64 d3) (.float .f64 u3) → Calls Tryz.prog 74 #[fv2 d0 u0,.slice (some ⟨B,2,none⟩) 3 3] u fun e w' => ∃ x y,e = .returned (fv2 x y) ∧ J x y ∧ Kept u w')) :
  Calls Tryz.prog 121 #[fv2 a1 b1,fv2 a2 b2,.pointer (some ⟨R,0,none⟩)] w fun e w' => ∃ x y,e = .returned (fv2 x y) ∧ J x y ∧ Kept w w':=by
 have hSF:=sto_f
 obtain ⟨X,hX⟩ : ∃ X,X = ((w.alloc (.cells #[.float .f64 a1,.float .f64 b1] 87)).alloc (.cells #[.float .f64 a2,.float .f64 b2] 87)).alloc (.cells #[.float .f64 0,.float .f64 0] 87):=⟨_,rfl⟩
 have hP1 : P2 X w.heap.size (.float .f64 a1) (.float .f64 b1):=by
  rw [hX]
  exact ((P2.new w _ _ _).alloc _ _).alloc _ _
 have hP2 : P2 X (w.heap.size + 1) (.float .f64 a2) (.float .f64 b2):=by
  rw [hX]
  have:=(P2.new (w.alloc (.cells #[.float .f64 a1,.float .f64 b1] 87)) (.float .f64 a2) (.float .f64 b2) 87).alloc #[.float .f64 0,.float .f64 0] 87
  simpa using this
 have hP3 : P2 X (w.heap.size + 1 + 1) (.float .f64 0) (.float .f64 0):=by
  rw [hX]
  have:=P2.new ((w.alloc (.cells #[.float .f64 a1,.float .f64 b1] 87)).alloc (.cells #[.float .f64 a2,.float .f64 b2] 87)) (.float .f64 0) (.float .f64 0) 87
  simpa using this
 have hK : Kept w X:=by
  rw [hX]
  exact (((Kept.refl w).alloc _ _).alloc _ _).alloc _ _
 obtain ⟨H0,hH0⟩ : ∃ H,H = w.heap.size:=⟨_,rfl⟩
 obtain ⟨H1,hH1⟩ : ∃ H,H = H0 + 1:=⟨_,rfl⟩
 obtain ⟨H2,hH2⟩ : ∃ H,H = H1 + 1:=⟨_,rfl⟩
 rw [← hH0] at hP1 hP2 hP3
 rw [← hH1] at hP2 hP3
 rw [← hH2] at hP3
 have o2 : w.heap.size ≤ H2:=by omega
 have hRX:=(hK.below.cell (p:=⟨R,0,none⟩) lR).trans hR
 have lRX : R < X.heap.size:=Nat.lt_of_lt_of_le lR hK.below.size
 have kd : Kept X X.drew:=(Kept.refl X).drew
 have HS : Hid (∀ u,Kept X u → u.cell? ⟨R,0,none⟩ = some (.func (.func 120) #[] #[.pointer (some ⟨P,0,none⟩),.pointer (some ⟨Q,0,none⟩)]) ∧ (u.cell? ⟨H0,0,none⟩ = some (.float .f64 a1) ∧ u.cell? ⟨H0,1,none⟩ = some (.float .f64 b1)) ∧ (u.cell? ⟨H1,0,none⟩ = some (.float .f64 a2) ∧ u.cell? ⟨H1,1,none⟩ = some (.float .f64 b2))):=fun u k => ⟨(k.below.cell (p:=⟨R,0,none⟩) lRX).trans hRX,⟨(hP1.kept k).c0,(hP1.kept k).c1⟩,⟨(hP2.kept k).c0,(hP2.kept k).c1⟩⟩
 have KC' : Hid (∀ u x y z1 z2,(x = a1 ∧ y = a2 ∧ z1 = d0 ∧ z2 = u0 ∨ x = a1 ∧ y = b2 ∧ z1 = d1 ∧ z2 = u1 ∨ x = b1 ∧ y = a2 ∧ z1 = d2 ∧ z2 = u2 ∨ x = b1 ∧ y = b2 ∧ z1 = d3 ∧ z2 = u3) → Kept X u → Calls Tryz.prog 120 #[.float .f64 x,.float .f64 y,.pointer (some ⟨P,0,none⟩),.pointer (some ⟨Q,0,none⟩)] u fun e w' => e = .returned (fv2 z1 z2) ∧ Kept X w' ∧ Kept u w'):=fun u x y z1 z2 h k => by
  refine (KC.out u x y z1 z2 h (hK.trans k)).mono ?_
  rintro e w' ⟨rfl,k'⟩
  exact ⟨rfl,k.trans k',k'⟩
 clear KC hR hRX
 go_enter Tryz.func121,Tryz.ntmps121
 go_upto_region 1 with fail
 rw [← hX,← hH0,← hH1,← hH2]
 clear hX hH0 hH1 hH2
 go_cut [6] from 7 to 31 (fun t6 wx => ∃ B,t6 = .pointer (some ⟨B,0,none⟩) ∧ X.heap.size ≤ B ∧ E8 wx B (.float .f64 d0) (.float .f64 u0) (.float .f64 d1) (.float .f64 u1) (.float .f64 d2) (.float .f64 u2) (.float .f64 d3) (.float .f64 u3) ∧ Kept X wx)
 case first =>
  refine wp_region_held_drew (S:=fun u => u.cell? ⟨R,0,none⟩ = some (.func (.func 120) #[] #[.pointer (some ⟨P,0,none⟩),.pointer (some ⟨Q,0,none⟩)]) ∧ (u.cell? ⟨H0,0,none⟩ = some (.float .f64 a1) ∧ u.cell? ⟨H0,1,none⟩ = some (.float .f64 b1)) ∧ (u.cell? ⟨H1,0,none⟩ = some (.float .f64 a2) ∧ u.cell? ⟨H1,1,none⟩ = some (.float .f64 b2))) (by kernel_rfl) (HS.out _ kd) (fun hHeld => ?_)
  refine tk (i:=0) (v:=?_) rfl ?_
  simp only [Act.put,zA,zB,zC,zD,zE,zF]
  refine tk (i:=1) (v:=?_) rfl ?_
  simp only [Act.put,zA,zB,zC,zD,zE,zF]
  refine tk (i:=2) (v:=?_) rfl ?_
  simp only [Act.put,zA,zB,zC,zD,zE,zF]
  refine tk (i:=3) (v:=?_) rfl ?_
  simp only [Act.put,zA,zB,zC,zD,zE,zF]
  refine tk (i:=4) (v:=?_) rfl ?_
  simp only [Act.put,zA,zB,zC,zD,zE,zF]
  refine tk (i:=6) (v:=?_) rfl ?_
  simp only [Act.put,zA,zB,zC,zD,zE,zF]
  refine tk (i:=7) (v:=?_) rfl ?_
  simp only [Act.put,zA,zB,zC,zD,zE,zF]
  refine tk (i:=8) (v:=?_) rfl ?_
  simp only [Act.put,zA,zB,zC,zD,zE,zF]
  refine tk (i:=9) (v:=?_) rfl ?_
  simp only [Act.put,zA,zB,zC,zD,zE,zF]
  refine tk (i:=10) (v:=?_) rfl ?_
  simp only [Act.put,zA,zB,zC,zD,zE,zF]
  refine tk (i:=12) (v:=?_) rfl ?_
  simp only [Act.put,zA,zB,zC,zD,zE,zF]
  refine tk (i:=13) (v:=?_) rfl ?_
  simp only [Act.put,zA,zB,zC,zD,zE,zF]
  refine tk (i:=14) (v:=?_) rfl ?_
  simp only [Act.put,zA,zB,zC,zD,zE,zF]
  refine tk (i:=15) (v:=?_) rfl ?_
  simp only [Act.put,zA,zB,zC,zD,zE,zF]
  refine tk (i:=16) (v:=?_) rfl ?_
  simp only [Act.put,zA,zB,zC,zD,zE,zF]
  refine tk (i:=18) (v:=?_) rfl ?_
  simp only [Act.put,zA,zB,zC,zD,zE,zF]
  refine tk (i:=19) (v:=?_) rfl ?_
  simp only [Act.put,zA,zB,zC,zD,zE,zF]
  refine tk (i:=20) (v:=?_) rfl ?_
  simp only [Act.put,zA,zB,zC,zD,zE,zF]
  refine tk (i:=21) (v:=?_) rfl ?_
  simp only [Act.put,zA,zB,zC,zD,zE,zF]
  refine tk (i:=22) (v:=?_) rfl ?_
  simp only [Act.put,zA,zB,zC,zD,zE,zF]
  refine wpAnyH_ready (rs:=[5,25]) (by kernel_rfl) (by simp) ?_
  refine AllReadyH.cons rfl (fun K hK9 => ?_) (AllReadyH.cons rfl (fun K hK9 => ?_) AllReadyH.nil)
  ·go_simp
   go_wp2_with fail
   refine (KC'.out _ _ _ _ _ (.inl ⟨rfl,rfl,rfl,rfl⟩) kd).mono ?_
   rintro e wm0 ⟨rfl,km0,jm0⟩
   refine hK9.out _ _ (HS.out _ km0) (fun hHeldm0 => ?_)
   clear hK9 K
   refine wpAnyH_ready (rs:=[11,25]) (by kernel_rfl) (by simp) ?_
   refine AllReadyH.cons rfl (fun K hK9 => ?_) (AllReadyH.cons rfl (fun K hK9 => ?_) AllReadyH.nil)
   ·go_simp
    go_wp2_with fail
    refine (KC'.out _ _ _ _ _ (.inr (.inl ⟨rfl,rfl,rfl,rfl⟩)) km0).mono ?_
    rintro e wm1 ⟨rfl,km1,jm1⟩
    refine hK9.out _ _ (HS.out _ km1) (fun hHeldm1 => ?_)
    clear hK9 K
    refine wpAnyH_ready (rs:=[17,25]) (by kernel_rfl) (by simp) ?_
    refine AllReadyH.cons rfl (fun K hK9 => ?_) (AllReadyH.cons rfl (fun K hK9 => ?_) AllReadyH.nil)
    ·go_simp
     go_wp2_with fail
     refine (KC'.out _ _ _ _ _ (.inr (.inr (.inl ⟨rfl,rfl,rfl,rfl⟩))) km1).mono ?_
     rintro e wm2 ⟨rfl,km2,jm2⟩
     refine hK9.out _ _ (HS.out _ km2) (fun hHeldm2 => ?_)
     clear hK9 K
     refine wpAnyH_ready (rs:=[23,25]) (by kernel_rfl) (by simp) ?_
     refine AllReadyH.cons rfl (fun K hK9 => ?_) (AllReadyH.cons rfl (fun K hK9 => ?_) AllReadyH.nil)
     ·go_simp
      go_wp2_with fail
      refine (KC'.out _ _ _ _ _ (.inr (.inr (.inr ⟨rfl,rfl,rfl,rfl⟩))) km2).mono ?_
      rintro e wm3 ⟨rfl,km3,jm3⟩
      refine hK9.out _ _ (HS.out _ km3) (fun hHeldm3 => ?_)
      clear hK9 K
      refine tk (i:=24) (v:=?_) rfl ?_
      simp only [Act.put,zA,zB,zC,zD,zE,zF]
      refine wpAnyH_ready (rs:=[25]) (by kernel_rfl) (by simp) ?_
      refine AllReadyH.cons rfl (fun K hK9 => ?_) AllReadyH.nil
      go_simp
      refine hK9.out _ _ (HS.out _ (km3.alloc _ _)) (fun hHeld8 => ?_)
      clear hK9 K
      refine wpAnyH_ready (rs:=[26]) (by kernel_rfl) (by simp) ?_
      refine AllReadyH.cons rfl (fun K hK9 => ?_) AllReadyH.nil
      go_simp
      refine hK9.out _ _ (HS.out _ (km3.alloc _ _)) (fun hHeld9 => ?_)
      clear hK9 K
      refine wpAnyH_done (by kernel_rfl) ?_ _
      go_wp2_with fail
      go_meet
      have zz:=km3.below.size
      exact ⟨_,rfl,by omega,E8.new _ _ _ _ _ _ _ _ _ _,km3.alloc _ _⟩
     ·go_simp
      have zz:=km2.below.size
      have ka:=km2.alloc #[.float .f64 0,.float .f64 0,.float .f64 0,.float .f64 0,.float .f64 0,.float .f64 0,.float .f64 0,.float .f64 0] 156
      have qa:=E8.new wm2 (.float .f64 0) (.float .f64 0) (.float .f64 0) (.float .f64 0) (.float .f64 0) (.float .f64 0) (.float .f64 0) (.float .f64 0) 156
      refine hK9.out _ _ (HS.out _ ka) (fun hHeld7 => ?_)
      clear hK9 K
      refine wpAnyH_ready (rs:=[23]) (by kernel_rfl) (by simp) ?_
      refine AllReadyH.cons rfl (fun K hK9 => ?_) AllReadyH.nil
      go_simp
      go_wp2_with fail
      refine (KC'.out _ _ _ _ _ (.inr (.inr (.inr ⟨rfl,rfl,rfl,rfl⟩))) ka).mono ?_
      rintro e wa3c3 ⟨rfl,ka3c3,ja3c3⟩
      refine hK9.out _ _ (HS.out _ ka3c3) (fun hHelda3c3 => ?_)
      clear hK9 K
      have qa3c3:=E8.kept qa ja3c3
      refine tk (i:=24) (v:=?_) rfl ?_
      simp only [Act.put,zA,zB,zC,zD,zE,zF]
      obtain ⟨f0,f1,f2,f3,f4,f5,f6,f7,ff⟩:=qa3c3
      have qf:=E8.mk f0 f1 f2 f3 f4 f5 f6 f7 ff
      refine wpAnyH_ready (rs:=[26]) (by kernel_rfl) (by simp) ?_
      refine AllReadyH.cons rfl (fun K hK9 => ?_) AllReadyH.nil
      go_simp
      have kf : Kept X (put8 _ wm2.heap.size (.float .f64 d0) (.float .f64 u0) (.float .f64 d1) (.float .f64 u1) (.float .f64 d2) (.float .f64 u2) (.float .f64 d3) (.float .f64 u3)):=ka3c3.put8 (by omega) _ _ _ _ _ _ _ _
      refine hK9.out _ _ (HS.out _ kf) (fun hHeld9 => ?_)
      clear hK9 K
      refine wpAnyH_done (by kernel_rfl) ?_ _
      go_wp2_with fail
      go_meet
      exact ⟨_,rfl,by omega,qf.put _ _ _ _ _ _ _ _,kf⟩
    ·go_simp
     have zz:=km1.below.size
     have ka:=km1.alloc #[.float .f64 0,.float .f64 0,.float .f64 0,.float .f64 0,.float .f64 0,.float .f64 0,.float .f64 0,.float .f64 0] 156
     have qa:=E8.new wm1 (.float .f64 0) (.float .f64 0) (.float .f64 0) (.float .f64 0) (.float .f64 0) (.float .f64 0) (.float .f64 0) (.float .f64 0) 156
     refine hK9.out _ _ (HS.out _ ka) (fun hHeld7 => ?_)
     clear hK9 K
     refine wpAnyH_ready (rs:=[17]) (by kernel_rfl) (by simp) ?_
     refine AllReadyH.cons rfl (fun K hK9 => ?_) AllReadyH.nil
     go_simp
     go_wp2_with fail
     refine (KC'.out _ _ _ _ _ (.inr (.inr (.inl ⟨rfl,rfl,rfl,rfl⟩))) ka).mono ?_
     rintro e wa2c2 ⟨rfl,ka2c2,ja2c2⟩
     refine hK9.out _ _ (HS.out _ ka2c2) (fun hHelda2c2 => ?_)
     clear hK9 K
     have qa2c2:=E8.kept qa ja2c2
     refine wpAnyH_ready (rs:=[23]) (by kernel_rfl) (by simp) ?_
     refine AllReadyH.cons rfl (fun K hK9 => ?_) AllReadyH.nil
     go_simp
     go_wp2_with fail
     refine (KC'.out _ _ _ _ _ (.inr (.inr (.inr ⟨rfl,rfl,rfl,rfl⟩))) ka2c2).mono ?_
     rintro e wa2c3 ⟨rfl,ka2c3,ja2c3⟩
     refine hK9.out _ _ (HS.out _ ka2c3) (fun hHelda2c3 => ?_)
     clear hK9 K
     have qa2c3:=E8.kept qa2c2 ja2c3
     refine tk (i:=24) (v:=?_) rfl ?_
     simp only [Act.put,zA,zB,zC,zD,zE,zF]
     obtain ⟨f0,f1,f2,f3,f4,f5,f6,f7,ff⟩:=qa2c3
     have qf:=E8.mk f0 f1 f2 f3 f4 f5 f6 f7 ff
     refine wpAnyH_ready (rs:=[26]) (by kernel_rfl) (by simp) ?_
     refine AllReadyH.cons rfl (fun K hK9 => ?_) AllReadyH.nil
     go_simp
     have kf : Kept X (put8 _ wm1.heap.size (.float .f64 d0) (.float .f64 u0) (.float .f64 d1) (.float .f64 u1) (.float .f64 d2) (.float .f64 u2) (.float .f64 d3) (.float .f64 u3)):=ka2c3.put8 (by omega) _ _ _ _ _ _ _ _
     refine hK9.out _ _ (HS.out _ kf) (fun hHeld9 => ?_)
     clear hK9 K
     refine wpAnyH_done (by kernel_rfl) ?_ _
     go_wp2_with fail
     go_meet
     exact ⟨_,rfl,by omega,qf.put _ _ _ _ _ _ _ _,kf⟩
   ·go_simp
    have zz:=km0.below.size
    have ka:=km0.alloc #[.float .f64 0,.float .f64 0,.float .f64 0,.float .f64 0,.float .f64 0,.float .f64 0,.float .f64 0,.float .f64 0] 156
    have qa:=E8.new wm0 (.float .f64 0) (.float .f64 0) (.float .f64 0) (.float .f64 0) (.float .f64 0) (.float .f64 0) (.float .f64 0) (.float .f64 0) 156
    refine hK9.out _ _ (HS.out _ ka) (fun hHeld7 => ?_)
    clear hK9 K
    refine wpAnyH_ready (rs:=[11]) (by kernel_rfl) (by simp) ?_
    refine AllReadyH.cons rfl (fun K hK9 => ?_) AllReadyH.nil
    go_simp
    go_wp2_with fail
    refine (KC'.out _ _ _ _ _ (.inr (.inl ⟨rfl,rfl,rfl,rfl⟩)) ka).mono ?_
    rintro e wa1c1 ⟨rfl,ka1c1,ja1c1⟩
    refine hK9.out _ _ (HS.out _ ka1c1) (fun hHelda1c1 => ?_)
    clear hK9 K
    have qa1c1:=E8.kept qa ja1c1
    refine wpAnyH_ready (rs:=[17]) (by kernel_rfl) (by simp) ?_
    refine AllReadyH.cons rfl (fun K hK9 => ?_) AllReadyH.nil
    go_simp
    go_wp2_with fail
    refine (KC'.out _ _ _ _ _ (.inr (.inr (.inl ⟨rfl,rfl,rfl,rfl⟩))) ka1c1).mono ?_
    rintro e wa1c2 ⟨rfl,ka1c2,ja1c2⟩
    refine hK9.out _ _ (HS.out _ ka1c2) (fun hHelda1c2 => ?_)
    clear hK9 K
    have qa1c2:=E8.kept qa1c1 ja1c2
    refine wpAnyH_ready (rs:=[23]) (by kernel_rfl) (by simp) ?_
    refine AllReadyH.cons rfl (fun K hK9 => ?_) AllReadyH.nil
    go_simp
    go_wp2_with fail
    refine (KC'.out _ _ _ _ _ (.inr (.inr (.inr ⟨rfl,rfl,rfl,rfl⟩))) ka1c2).mono ?_
    rintro e wa1c3 ⟨rfl,ka1c3,ja1c3⟩
    refine hK9.out _ _ (HS.out _ ka1c3) (fun hHelda1c3 => ?_)
    clear hK9 K
    have qa1c3:=E8.kept qa1c2 ja1c3
    refine tk (i:=24) (v:=?_) rfl ?_
    simp only [Act.put,zA,zB,zC,zD,zE,zF]
    obtain ⟨f0,f1,f2,f3,f4,f5,f6,f7,ff⟩:=qa1c3
    have qf:=E8.mk f0 f1 f2 f3 f4 f5 f6 f7 ff
    refine wpAnyH_ready (rs:=[26]) (by kernel_rfl) (by simp) ?_
    refine AllReadyH.cons rfl (fun K hK9 => ?_) AllReadyH.nil
    go_simp
    have kf : Kept X (put8 _ wm0.heap.size (.float .f64 d0) (.float .f64 u0) (.float .f64 d1) (.float .f64 u1) (.float .f64 d2) (.float .f64 u2) (.float .f64 d3) (.float .f64 u3)):=ka1c3.put8 (by omega) _ _ _ _ _ _ _ _
    refine hK9.out _ _ (HS.out _ kf) (fun hHeld9 => ?_)
    clear hK9 K
    refine wpAnyH_done (by kernel_rfl) ?_ _
    go_wp2_with fail
    go_meet
    exact ⟨_,rfl,by omega,qf.put _ _ _ _ _ _ _ _,kf⟩
  ·go_simp
   have zz:=kd.below.size
   have ka : Kept X (X.alloc (.cells #[.float .f64 0,.float .f64 0,.float .f64 0,.float .f64 0,.float .f64 0,.float .f64 0,.float .f64 0,.float .f64 0] 156)).drew:=((Kept.refl X).alloc _ _).drew
   have qa : E8 (X.alloc (.cells #[.float .f64 0,.float .f64 0,.float .f64 0,.float .f64 0,.float .f64 0,.float .f64 0,.float .f64 0,.float .f64 0] 156)).drew X.heap.size _ _ _ _ _ _ _ _:=(E8.new X _ _ _ _ _ _ _ _ _).kept (Kept.refl _).drew
   refine hK9.out _ _ (HS.out _ ka) (fun hHeld7 => ?_)
   clear hK9 K
   refine wpAnyH_ready (rs:=[5]) (by kernel_rfl) (by simp) ?_
   refine AllReadyH.cons rfl (fun K hK9 => ?_) AllReadyH.nil
   go_simp
   go_wp2_with fail
   refine (KC'.out _ _ _ _ _ (.inl ⟨rfl,rfl,rfl,rfl⟩) ka).mono ?_
   rintro e wa0c0 ⟨rfl,ka0c0,ja0c0⟩
   refine hK9.out _ _ (HS.out _ ka0c0) (fun hHelda0c0 => ?_)
   clear hK9 K
   have qa0c0:=E8.kept qa ja0c0
   refine wpAnyH_ready (rs:=[11]) (by kernel_rfl) (by simp) ?_
   refine AllReadyH.cons rfl (fun K hK9 => ?_) AllReadyH.nil
   go_simp
   go_wp2_with fail
   refine (KC'.out _ _ _ _ _ (.inr (.inl ⟨rfl,rfl,rfl,rfl⟩)) ka0c0).mono ?_
   rintro e wa0c1 ⟨rfl,ka0c1,ja0c1⟩
   refine hK9.out _ _ (HS.out _ ka0c1) (fun hHelda0c1 => ?_)
   clear hK9 K
   have qa0c1:=E8.kept qa0c0 ja0c1
   refine wpAnyH_ready (rs:=[17]) (by kernel_rfl) (by simp) ?_
   refine AllReadyH.cons rfl (fun K hK9 => ?_) AllReadyH.nil
   go_simp
   go_wp2_with fail
   refine (KC'.out _ _ _ _ _ (.inr (.inr (.inl ⟨rfl,rfl,rfl,rfl⟩))) ka0c1).mono ?_
   rintro e wa0c2 ⟨rfl,ka0c2,ja0c2⟩
   refine hK9.out _ _ (HS.out _ ka0c2) (fun hHelda0c2 => ?_)
   clear hK9 K
   have qa0c2:=E8.kept qa0c1 ja0c2
   refine wpAnyH_ready (rs:=[23]) (by kernel_rfl) (by simp) ?_
   refine AllReadyH.cons rfl (fun K hK9 => ?_) AllReadyH.nil
   go_simp
   go_wp2_with fail
   refine (KC'.out _ _ _ _ _ (.inr (.inr (.inr ⟨rfl,rfl,rfl,rfl⟩))) ka0c2).mono ?_
   rintro e wa0c3 ⟨rfl,ka0c3,ja0c3⟩
   refine hK9.out _ _ (HS.out _ ka0c3) (fun hHelda0c3 => ?_)
   clear hK9 K
   have qa0c3:=E8.kept qa0c2 ja0c3
   refine tk (i:=24) (v:=?_) rfl ?_
   simp only [Act.put,zA,zB,zC,zD,zE,zF]
   obtain ⟨f0,f1,f2,f3,f4,f5,f6,f7,ff⟩:=qa0c3
   have qf:=E8.mk f0 f1 f2 f3 f4 f5 f6 f7 ff
   refine wpAnyH_ready (rs:=[26]) (by kernel_rfl) (by simp) ?_
   refine AllReadyH.cons rfl (fun K hK9 => ?_) AllReadyH.nil
   go_simp
   have kf : Kept X (put8 _ X.heap.size (.float .f64 d0) (.float .f64 u0) (.float .f64 d1) (.float .f64 u1) (.float .f64 d2) (.float .f64 u2) (.float .f64 d3) (.float .f64 u3)):=ka0c3.put8 (by omega) _ _ _ _ _ _ _ _
   refine hK9.out _ _ (HS.out _ kf) (fun hHeld9 => ?_)
   clear hK9 K
   refine wpAnyH_done (by kernel_rfl) ?_ _
   go_wp2_with fail
   go_meet
   exact ⟨_,rfl,by omega,qf.put _ _ _ _ _ _ _ _,kf⟩
 case rest =>
  obtain ⟨B,rfl,hB,hE,kc⟩:=hcut
  have hP3c:=hP3.kept kc
  have kwc:=hK.trans kc
  have lB:=hE.lt
  have l3:=hP3.lt
  have nB : H2 ≠ B:=by omega
  have HE : Hid (E8 wc B (.float .f64 d0) (.float .f64 u0) (.float .f64 d1) (.float .f64 u1) (.float .f64 d2) (.float .f64 u2) (.float .f64 d3) (.float .f64 u3)):=hE
  have HS2 : Hid (∀ u,Kept wc u → u.cell? ⟨B,0,none⟩ = some (.float .f64 d0) ∧ u.cell? ⟨B,1,none⟩ = some (.float .f64 u0)):=fun u k => ⟨(HE.out.kept k).c0,(HE.out.kept k).c1⟩
  have kd2 : Kept wc wc.drew:=(Kept.refl _).drew
  have e0:=HS2.out _ kd2
  clear HS KC' hP1 hP2 hE kd
  go_wp2_with fail
  refine wp_region_held_drew (S:=fun u => u.cell? ⟨B,0,none⟩ = some (.float .f64 d0) ∧ u.cell? ⟨B,1,none⟩ = some (.float .f64 u0)) (by kernel_rfl) (e0) (fun hHeld => ?_)
  refine tk (i:=0) (v:=?_) rfl ?_
  simp only [Act.put,zA,zB,zC,zD,zE,zF]
  refine tk (i:=1) (v:=?_) rfl ?_
  simp only [Act.put,zA,zB,zC,zD,zE,zF]
  refine tk (i:=2) (v:=?_) rfl ?_
  simp only [Act.put,zA,zB,zC,zD,zE,zF]
  refine wpAnyH_ready (rs:=[3]) (by kernel_rfl) (by simp) ?_
  refine AllReadyH.cons rfl (fun K hK9 => ?_) AllReadyH.nil
  go_simp
  go_wp2_with fail
  refine (KJ.out _ _ (kwc.trans kd2) (HE.out.kept kd2)).mono ?_
  rintro e v1 ⟨x,y,rfl,hJ,k1⟩
  have j1:=kd2.trans k1
  refine hK9.out _ _ (HS2.out _ j1) (fun hHeld1 => ?_)
  clear hK9 K
  obtain ⟨c0,c1,cf⟩:=hP3c.kept j1
  refine wpAnyH_ready (rs:=[4]) (by kernel_rfl) (by simp) ?_
  refine AllReadyH.cons rfl (fun K hK9 => ?_) AllReadyH.nil
  go_simp
  have e3 : ((v1.setCell ⟨H2,0,none⟩ (.float .f64 x)).setCell ⟨H2,1,none⟩ (.float .f64 y)).cell? ⟨B,0,none⟩ = some (.float .f64 d0) ∧ ((v1.setCell ⟨H2,0,none⟩ (.float .f64 x)).setCell ⟨H2,1,none⟩ (.float .f64 y)).cell? ⟨B,1,none⟩ = some (.float .f64 u0):=by
   have q:=HE.out.kept j1
   have nB' : B ≠ H2:=fun e => nB e.symm
   have q0:=q.c0
   have q1:=q.c1
   constructor <;> simp [go_sem,nB,nB',q0,q1]
  refine hK9.out _ _ e3 (fun hHeld3 => ?_)
  clear hK9 K
  refine wpAnyH_done (by kernel_rfl) ?_ _
  go_wp2_with fail
  have hz:=(P2.mk c0 c1 cf).put (.float .f64 x) (.float .f64 y)
  obtain ⟨m0,m1,mf⟩:=hz
  exact bodyPost_ret (v:=fv2 x y) (by simp [results,Tryz.results121,go_sem,m0,m1]) rfl ⟨x,y,rfl,hJ,((kwc.trans j1).setCell o2 _).setCell o2 _⟩
end Go.Proofs.YtdhimkpfnhoagaaGreatDoor
